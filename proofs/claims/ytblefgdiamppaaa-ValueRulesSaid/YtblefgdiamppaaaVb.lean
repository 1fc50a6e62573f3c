/-
  The law's own parts: awake, the closures of ValueRules, the reference's signs.
-/
import Derived.Test.YtblefgdiamppaaaVa
import Derived.Lib.Hide
namespace Go.Proofs.Ytblefgdiamppaaa
open Go.ChangeShapes Go.WideShapes Go.ChangeAt Go.RowKit
set_option linter.unusedVariables false
set_option linter.unusedSimpArgs false
theorem gtrans {a b c : World} (h : Grown a b) (h2 : Grown b c) : Grown a c := ⟨World.keptBut_trans h.1 h2.1, fun x => (h2.2.1 x).trans (h.2.1 x), Nat.le_trans h.2.2 h2.2.2⟩
theorem w3 : wrap64 (-3) = -3 := by unfold wrap64; omega
theorem awake_any (w : World) : Calls Try.prog 6 #[] w fun e w' => e = .returned (.bool true) ∧ Grown w w' := by
  go_enter Try.func6, Try.ntmps6
  go_wp2_with fail
  refine (apply_div (-7) 2 (by decide) _ _ (by go_simp) (by go_simp)).mono ?_
  rintro e w1 ⟨rfl, hg1⟩
  have HG1 := Lib.hid hg1; clear hg1
  have e3 := w3
  go_wp2_with fail
  refine (apply_mod (-7) 2 (by decide) _ _ (by go_simp) (by go_simp)).mono ?_
  rintro e w2 ⟨rfl, hg2⟩
  have HG2 := Lib.hid hg2; clear hg2
  go_wp2_with fail
  go_ret
  exact ⟨rfl, gtrans (gtrans ((Grown.refl w).alloc _ _) HG1.out) (gtrans ((Grown.refl _).alloc _ _) HG2.out)⟩
theorem add_any (a b : Int) (w : World) : Calls Try.prog 9 #[.int .i64 a, .int .i64 b] w fun e w' => e = .returned (.int .i64 (wrap64 (a + b))) ∧ Grown w w' := by
  go_enter Try.func9, Try.ntmps9
  go_wp2_with fail
  refine (apply_add a b _ _ (by go_simp) (by go_simp)).mono ?_
  rintro e w1 ⟨rfl, hg1⟩
  have HG1 := Lib.hid hg1; clear hg1
  go_wp2_with fail
  go_ret
  exact ⟨rfl, gtrans ((Grown.refl w).alloc _ _) HG1.out⟩
theorem mul_any (a b : Int) (w : World) : Calls Try.prog 10 #[.int .i64 a, .int .i64 b] w fun e w' => e = .returned (.int .i64 (wrap64 (a * b))) ∧ Grown w w' := by
  go_enter Try.func10, Try.ntmps10
  go_wp2_with fail
  refine (apply_mul a b _ _ (by go_simp) (by go_simp)).mono ?_
  rintro e w1 ⟨rfl, hg1⟩
  have HG1 := Lib.hid hg1; clear hg1
  go_wp2_with fail
  go_ret
  exact ⟨rfl, gtrans ((Grown.refl w).alloc _ _) HG1.out⟩
theorem is_any (op : ByteArray) (a b : Int) (d : Bool) (w : World) (h : ∀ g (w : World), w.cell? ⟨g, 0, none⟩ = some (.int .i64 a) → w.cell? ⟨g, 1, none⟩ = some (.int .i64 b) → Calls Try.prog 8 #[.string op, .slice (some ⟨g, 0, none⟩) 2 2] w fun e w' => e = .returned (.int .i64 (b2i d)) ∧ Grown w w') : Calls Try.prog 11 #[.string op, .int .i64 a, .int .i64 b] w fun e w' => e = .returned (.bool d) ∧ Grown w w' := by
  go_enter Try.func11, Try.ntmps11
  go_wp2_with fail
  refine (h _ _ (by go_simp) (by go_simp)).mono ?_
  rintro e w1 ⟨rfl, hg1⟩
  have HG1 := Lib.hid hg1; clear hg1
  have hb : (b2i d == 1) = d := by cases d <;> rfl
  go_wp2_with fail
  go_ret
  exact ⟨rfl, gtrans ((Grown.refl w).alloc _ _) HG1.out⟩
theorem truth_any (d : Bool) (w : World) : Calls Try.prog 12 #[.bool d] w fun e w' => e = .returned (.int .i64 (b2i d)) ∧ w' = w := by
  cases d <;>
  (go_enter Try.func12, Try.ntmps12
   go_wp2
   go_ret
   exact ⟨rfl, rfl⟩)
theorem u64_is (n : Int) : IntKind.u64.wrap n = n % 18446744073709551616 := by
  first | rfl | (simp [IntKind.wrap]; done) | (unfold IntKind.wrap; simp [IntKind.bits, IntKind.signed])
theorem wrap_mod (m n : Int) (h : m % 18446744073709551616 = n % 18446744073709551616) : wrap64 m = wrap64 n := by unfold wrap64; omega
theorem mul_left_mod (x y : Int) : x % 18446744073709551616 * y % 18446744073709551616 = x * y % 18446744073709551616 := by rw [Int.mul_emod, Int.emod_emod, ← Int.mul_emod]
theorem step_mod (o x y : Int) : ((o + x) % 18446744073709551616 + (x + x) % 18446744073709551616 * y) % 18446744073709551616 = (o + x * (2 * y + 1)) % 18446744073709551616 := by
  rw [Int.emod_add_emod, Int.add_emod, mul_left_mod, ← Int.add_emod]
  congr 1
  rw [Int.mul_add, Int.add_mul, Int.mul_one, Int.mul_left_comm]
  omega
theorem step_mod0 (o x y : Int) : (o + (x + x) % 18446744073709551616 * y) % 18446744073709551616 = (o + x * (2 * y)) % 18446744073709551616 := by
  rw [Int.add_emod, mul_left_mod, ← Int.add_emod]
  congr 1
  rw [Int.add_mul, Int.mul_left_comm]
  omega
def Tm (a b : Int) (o x y : Value) : Prop := ∃ p q r : Int, o = .int .u64 p ∧ x = .int .u64 q ∧ y = .int .u64 r ∧ 0 ≤ r ∧ r < 18446744073709551616 ∧ (p + q * r) % 18446744073709551616 = (a * b) % 18446744073709551616
theorem times_any (a b : Int) (w : World) : Calls Try.prog 13 #[.int .i64 a, .int .i64 b] w fun e w' => e = .returned (.int .i64 (wrap64 (a * b))) ∧ w' = w := by
  go_enter Try.func13, Try.ntmps13
  go_wp2_with fail
  go_loopw [5, 6, 7] (fun o x y wr => Tm a b o x y ∧ wr = w) (fun _ _ y _ => (intOf y).toNat)
  case atStart => exact ⟨⟨_, _, _, rfl, rfl, rfl, by rw [u64_is]; omega, by rw [u64_is]; omega, by rw [u64_is, u64_is]; simp [Int.add_emod, Int.mul_emod]⟩, rfl⟩
  case round =>
    obtain ⟨⟨p, q, r, rfl, rfl, rfl, h0, h1, hm⟩, rfl⟩ := hrel
    have HM := Lib.hid hm; clear hm
    by_cases h2 : 0 < r
    · obtain ⟨k, hk⟩ : ∃ k, r = 2 * k ∨ r = 2 * k + 1 := ⟨r / 2, by omega⟩
      rcases hk with hk | hk
      · have e1 : r.tmod 2 = 0 := by rw [Int.tmod_eq_emod_of_nonneg (by omega)]; omega
        have e2 : IntKind.u64.wrap (r.tdiv 2) = k := by rw [u64_is, Int.tdiv_eq_ediv_of_nonneg (by omega)]; omega
        go_wp2_with fail
        refine ⟨⟨⟨p, _, k, rfl, rfl, rfl, by omega, by omega, ?_⟩, trivial⟩, by simp [intOf]; omega⟩
        rw [u64_is, step_mod0, ← hk]; exact HM.out
      · have e1 : r.tmod 2 = 1 := by rw [Int.tmod_eq_emod_of_nonneg (by omega)]; omega
        have e2 : IntKind.u64.wrap (r.tdiv 2) = k := by rw [u64_is, Int.tdiv_eq_ediv_of_nonneg (by omega)]; omega
        go_wp2_with fail
        refine ⟨⟨⟨_, _, k, rfl, rfl, (by congr 1; omega), by omega, by omega, ?_⟩, trivial⟩, by simp [intOf]; omega⟩
        rw [u64_is, u64_is, step_mod, ← hk]; exact HM.out
    · have e0 : r = 0 := by omega
      subst e0
      go_wp2
      go_ret
      have hm := HM.out
      rw [Int.mul_zero, Int.add_zero] at hm
      exact ⟨by rw [← wrap_mod p (a * b) hm]; rfl, rfl⟩
theorem size_any (a : Int) (h1 : -9223372036854775808 ≤ a) (h2 : a ≤ 9223372036854775807) (w : World) : Calls Try.prog 16 #[.int .i64 a] w fun e w' => e = .returned (.int .u64 a.natAbs) ∧ w' = w := by
  by_cases h : a < 0
  · have e1 : -(a + 1) + 1 = a.natAbs := by omega
    go_enter Try.func16, Try.ntmps16
    go_wp2
    go_ret
    exact ⟨by rw [← e1]; rfl, rfl⟩
  · have e1 : IntKind.u64.wrap a = a.natAbs := by rw [u64_is]; omega
    go_enter Try.func16, Try.ntmps16
    go_wp2
    go_ret
    exact ⟨by rw [← e1]; rfl, rfl⟩
theorem tdiv_abs (a b : Int) : a.tdiv b = if (decide (a < 0) == decide (b < 0)) = true then ((a.natAbs / b.natAbs : Nat) : Int) else -((a.natAbs / b.natAbs : Nat) : Int) := by
  obtain ⟨n, rfl | rfl⟩ := a.eq_nat_or_neg <;> obtain ⟨m, rfl | rfl⟩ := b.eq_nat_or_neg <;>
    simp only [Int.neg_tdiv, Int.tdiv_neg, Int.natAbs_neg, Int.natAbs_natCast, Int.neg_neg]
  all_goals have e : (n : Int).tdiv m = ((n / m : Nat) : Int) := (by simp)
  all_goals rw [e]
  all_goals split <;> rename_i hh <;> try rfl
  all_goals
    simp only [beq_iff_eq, decide_eq_decide] at hh
    have hq : n / m = 0 := by
      rcases Nat.eq_zero_or_pos n with h | h
      · subst h; simp
      · rcases Nat.eq_zero_or_pos m with h' | h'
        · subst h'; simp
        · exfalso; omega
    rw [hq]; rfl
theorem over_any (a b : Int) (h1 : -9223372036854775808 ≤ a) (h2 : a ≤ 9223372036854775807) (h3 : -9223372036854775808 ≤ b) (h4 : b ≤ 9223372036854775807) (hb : b ≠ 0) (w : World) : Calls Try.prog 14 #[.int .i64 a, .int .i64 b] w fun e w' => e = .returned (.int .i64 (wrap64 (a.tdiv b))) ∧ w' = w := by
  have hn : (b.natAbs : Int) ≠ 0 := by omega
  have q1 : ((a.natAbs : Int).tdiv b.natAbs) = ((a.natAbs / b.natAbs : Nat) : Int) := by simp
  have q2 : (a.natAbs / b.natAbs : Nat) ≤ 9223372036854775808 := Nat.le_trans (Nat.div_le_self _ _) (by omega)
  have hD := tdiv_abs a b
  generalize a.natAbs / b.natAbs = n at q1 q2 hD
  have HD := Lib.hid hD; clear hD
  have q3 : IntKind.u64.wrap (n : Int) = (n : Int) := by rw [u64_is]; omega
  have q4 : (n : Int) ≤ 9223372036854775808 := by omega
  have q5 : (0 : Int) ≤ (n : Int) := by omega
  generalize (n : Int) = q at q1 q3 HD q4 q5
  by_cases ha : a < 0 <;> by_cases hb0 : b < 0
  · have da : decide (a < 0) = true := decide_eq_true ha
    have db : decide (b < 0) = true := decide_eq_true hb0
    have e : wrap64 q = wrap64 (a.tdiv b) := by rw [HD.out, da, db]; rfl
    go_enter Try.func14, Try.ntmps14
    go_wp2_with fail
    refine (size_any a h1 h2 w).mono ?_
    rintro x w1 ⟨rfl, rfl⟩
    go_wp2_with fail
    refine (size_any b h3 h4 w1).mono ?_
    rintro x w2 ⟨rfl, rfl⟩
    go_wp2_with fail
    go_ret
    exact ⟨by rw [← e]; rfl, rfl⟩
  · have da : decide (a < 0) = true := decide_eq_true ha
    have db : decide (b < 0) = false := decide_eq_false hb0
    have e : wrap64 (IntKind.u64.wrap (-q)) = wrap64 (a.tdiv b) := by
      rw [HD.out, da, db]; show wrap64 (IntKind.u64.wrap (-q)) = wrap64 (-q); rw [u64_is]; unfold wrap64; omega
    go_enter Try.func14, Try.ntmps14
    go_wp2_with fail
    refine (size_any a h1 h2 w).mono ?_
    rintro x w1 ⟨rfl, rfl⟩
    go_wp2_with fail
    refine (size_any b h3 h4 w1).mono ?_
    rintro x w2 ⟨rfl, rfl⟩
    go_wp2_with fail
    go_ret
    exact ⟨by rw [← e]; rfl, rfl⟩
  · have da : decide (a < 0) = false := decide_eq_false ha
    have db : decide (b < 0) = true := decide_eq_true hb0
    have e : wrap64 (IntKind.u64.wrap (-q)) = wrap64 (a.tdiv b) := by
      rw [HD.out, da, db]; show wrap64 (IntKind.u64.wrap (-q)) = wrap64 (-q); rw [u64_is]; unfold wrap64; omega
    go_enter Try.func14, Try.ntmps14
    go_wp2_with fail
    refine (size_any a h1 h2 w).mono ?_
    rintro x w1 ⟨rfl, rfl⟩
    go_wp2_with fail
    refine (size_any b h3 h4 w1).mono ?_
    rintro x w2 ⟨rfl, rfl⟩
    go_wp2_with fail
    go_ret
    exact ⟨by rw [← e]; rfl, rfl⟩
  · have da : decide (a < 0) = false := decide_eq_false ha
    have db : decide (b < 0) = false := decide_eq_false hb0
    have e : wrap64 q = wrap64 (a.tdiv b) := by rw [HD.out, da, db]; rfl
    go_enter Try.func14, Try.ntmps14
    go_wp2_with fail
    refine (size_any a h1 h2 w).mono ?_
    rintro x w1 ⟨rfl, rfl⟩
    go_wp2_with fail
    refine (size_any b h3 h4 w1).mono ?_
    rintro x w2 ⟨rfl, rfl⟩
    go_wp2_with fail
    go_ret
    exact ⟨by rw [← e]; rfl, rfl⟩
end Go.Proofs.Ytblefgdiamppaaa
