/-
  ValueParts and ValueRules, walked.
-/
import Derived.Test.YtblefgdiamppaaaVc
namespace Go.Proofs.Ytblefgdiamppaaa
open Go.ChangeShapes Go.WideShapes Go.ChangeAt Go.RowKit
set_option linter.unusedVariables false
set_option linter.unusedSimpArgs false
theorem vp_zero (a b : Int) (hb : b = 0) (w : World) : Calls Try.prog 4 #[.int .i64 a, .int .i64 b] w fun e w' => e = .returned (.bool true) ∧ Grown w w' := by
  subst hb
  go_enter Try.func4, Try.ntmps4
  go_wp2_with fail
  refine (awake_any w).mono ?_
  rintro x w1 ⟨rfl, hg1⟩
  have HG1 := Lib.hid hg1; clear hg1
  go_wp2_with fail
  refine (awake_any w1).mono ?_
  rintro x w2 ⟨rfl, hg2⟩
  have HG2 := Lib.hid hg2; clear hg2
  go_wp2_with fail
  go_ret
  exact ⟨rfl, gtrans HG1.out HG2.out⟩
theorem back_eq (a b : Int) (h1 : -9223372036854775808 ≤ a) (h2 : a ≤ 9223372036854775807) : wrap64 (wrap64 (wrap64 (a.tdiv b) * b) + a.tmod b) = a := by
  have e1 : a.tmod b = a - b * a.tdiv b := Int.tmod_def a b
  have e3 : ∃ q, wrap64 (a.tdiv b) = a.tdiv b + 18446744073709551616 * q := ⟨(wrap64 (a.tdiv b) - a.tdiv b) / 18446744073709551616, by unfold wrap64; omega⟩
  obtain ⟨q, hq⟩ := e3
  have e2 : wrap64 (a.tdiv b) * b = b * a.tdiv b + 18446744073709551616 * (q * b) := by rw [hq, Int.add_mul, Int.mul_comm, Int.mul_assoc]
  rw [e2, e1]
  generalize b * a.tdiv b = m
  unfold wrap64; omega
theorem vp_any (a b : Int) (h1 : -9223372036854775808 ≤ a) (h2 : a ≤ 9223372036854775807) (h3 : -9223372036854775808 ≤ b) (h4 : b ≤ 9223372036854775807) (hb : b ≠ 0) (w : World) : Calls Try.prog 4 #[.int .i64 a, .int .i64 b] w fun e w' => e = .returned (.bool true) ∧ Grown w w' := by
  have e1 := back_eq a b h1 h2
  have e2 : (a.tmod b).natAbs < b.natAbs := by
    rw [Int.natAbs_tmod]; exact Nat.mod_lt _ (by omega)
  have e3 : 0 ≤ a → 0 ≤ a.tmod b := fun h => Int.tmod_nonneg b h
  have e4 : a < 0 → a.tmod b ≤ 0 := fun h => by
    have := Int.tmod_nonneg b (show 0 ≤ -a by omega)
    rw [Int.neg_tmod] at this; omega
  have E := Lib.hid (And.intro e2 (And.intro e3 e4)); clear e2 e3 e4
  go_enter Try.func4, Try.ntmps4
  go_wp2_with fail
  refine (awake_any w).mono ?_
  rintro x w1 ⟨rfl, hg1⟩
  have HG1 := Lib.hid hg1; clear hg1
  go_wp2_with fail
  refine (apply_div a b hb _ _ (by go_simp) (by go_simp)).mono ?_
  rintro x w2 ⟨rfl, hg2⟩
  have HG2 := Lib.hid hg2; clear hg2
  go_wp2_with fail
  refine (apply_mod a b hb _ _ (by go_simp) (by go_simp)).mono ?_
  rintro x w3 ⟨rfl, hg3⟩
  have HG3 := Lib.hid hg3; clear hg3
  go_wp2_with fail
  refine (apply_mul (wrap64 (a.tdiv b)) b _ _ (by go_simp) (by go_simp)).mono ?_
  rintro x w4 ⟨rfl, hg4⟩
  have HG4 := Lib.hid hg4; clear hg4
  go_wp2_with fail
  refine (apply_add (wrap64 (wrap64 (a.tdiv b) * b)) (a.tmod b) _ _ (by go_simp) (by go_simp)).mono ?_
  rintro x w5 ⟨rfl, hg5⟩
  have HG5 := Lib.hid hg5; clear hg5
  rw [e1]
  have HB : Grown w w5 := gtrans HG1.out (gtrans (gtrans ((Grown.refl _).alloc _ _) HG2.out) (gtrans (gtrans ((Grown.refl _).alloc _ _) HG3.out) (gtrans (gtrans ((Grown.refl _).alloc _ _) HG4.out) (gtrans ((Grown.refl _).alloc _ _) HG5.out))))
  have HG := Lib.hid HB; clear HB HG1 HG2 HG3 HG4 HG5 e1
  generalize a.tmod b = r at *
  generalize wrap64 (a.tdiv b) = q at *
  obtain ⟨e2, e3, e4⟩ := E.out
  have hw : wrap64 (-r) = -r := by unfold wrap64; omega
  by_cases h0 : r = 0
  · have z : (r == 0) = true := by simpa using h0
    have z1 : decide (r ≤ 0) = true := decide_eq_true (by omega)
    have z2 : decide (0 ≤ r) = true := decide_eq_true (by omega)
    clear e2 e3 e4 h1 h2 h3 h4 h0
    go_wp2_with fail
    go_ret
    exact ⟨rfl, HG.out⟩
  · have z : (r == 0) = false := by simpa using h0
    by_cases hr : r < 0 <;> by_cases hb0 : b < 0
    · have c0 : decide (r < 0) = true := decide_eq_true (by omega)
      have c1 : decide (a < 0) = true := decide_eq_true (by omega)
      have c2 : decide (r ≤ 0) = true := decide_eq_true (by omega)
      have c3 : decide (0 < b) = false := decide_eq_false (by omega)
      have c5 : decide (b < 0) = true := decide_eq_true (by omega)
      have c7 : decide (0 ≤ r) = false := decide_eq_false (by omega)
      have c9 : decide (b < r) = true := decide_eq_true (by omega)
      clear e2 e3 e4 h1 h2 h3 h4 h0 hr hb0
      go_wp2_with fail
      go_ret
      exact ⟨rfl, HG.out⟩
    · have c0 : decide (r < 0) = true := decide_eq_true (by omega)
      have c1 : decide (a < 0) = true := decide_eq_true (by omega)
      have c2 : decide (r ≤ 0) = true := decide_eq_true (by omega)
      have c3 : decide (0 < b) = true := decide_eq_true (by omega)
      have c5 : decide (b < 0) = false := decide_eq_false (by omega)
      have c7 : decide (0 ≤ r) = false := decide_eq_false (by omega)
      have c8 : decide (-r < b) = true := decide_eq_true (by omega)
      clear e2 e3 e4 h1 h2 h3 h4 h0 hr hb0
      go_wp2_with fail
      go_ret
      exact ⟨rfl, HG.out⟩
    · have c0 : decide (r < 0) = false := decide_eq_false (by omega)
      have c1 : decide (a < 0) = false := decide_eq_false (by omega)
      have c2 : decide (r ≤ 0) = false := decide_eq_false (by omega)
      have c3 : decide (0 < b) = false := decide_eq_false (by omega)
      have c5 : decide (b < 0) = true := decide_eq_true (by omega)
      have c6 : decide (b < -r) = true := decide_eq_true (by omega)
      have c7 : decide (0 ≤ r) = true := decide_eq_true (by omega)
      clear e2 e3 e4 h1 h2 h3 h4 h0 hr hb0
      go_wp2_with fail
      go_ret
      exact ⟨rfl, HG.out⟩
    · have c0 : decide (r < 0) = false := decide_eq_false (by omega)
      have c1 : decide (a < 0) = false := decide_eq_false (by omega)
      have c2 : decide (r ≤ 0) = false := decide_eq_false (by omega)
      have c3 : decide (0 < b) = true := decide_eq_true (by omega)
      have c4 : decide (r < b) = true := decide_eq_true (by omega)
      have c5 : decide (b < 0) = false := decide_eq_false (by omega)
      have c7 : decide (0 ≤ r) = true := decide_eq_true (by omega)
      clear e2 e3 e4 h1 h2 h3 h4 h0 hr hb0
      go_wp2_with fail
      go_ret
      exact ⟨rfl, HG.out⟩
end Go.Proofs.Ytblefgdiamppaaa
