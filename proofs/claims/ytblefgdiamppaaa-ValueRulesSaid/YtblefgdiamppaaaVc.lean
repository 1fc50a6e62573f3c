/-
  The reference's signs: what each answers.
-/
import Derived.Test.YtblefgdiamppaaaVb
namespace Go.Proofs.Ytblefgdiamppaaa
open Go.ChangeShapes Go.WideShapes Go.ChangeAt Go.RowKit
set_option linter.unusedVariables false
set_option linter.unusedSimpArgs false
theorem and_any (x : Int) (m : Nat) (hm : m < 65536) : ∃ n : Nat, n ≤ m ∧ bits .and .i64 x (m : Int) = (n : Int) := by
  unfold bits
  simp only
  have h : (BitVec.ofInt IntKind.i64.bits x &&& BitVec.ofInt IntKind.i64.bits (m : Int)).toNat ≤ m := by
    rw [BitVec.toNat_and]
    refine Nat.le_trans Nat.and_le_right ?_
    have e : (BitVec.ofInt IntKind.i64.bits (m : Int)).toNat = m := by
      rw [BitVec.ofInt_natCast, BitVec.toNat_ofNat]
      exact Nat.mod_eq_of_lt (Nat.lt_of_lt_of_le hm (by decide))
    rw [e]; exact Nat.le_refl _
  exact ⟨_, h, IntWalk.i64_in _ (by omega)⟩
theorem and_mod (x : Int) (m q : Nat) (hm : m < 65536) (hq : 0 < q) : ∃ k : Nat, k < q ∧ (bits .and .i64 x (m : Int)).tmod (q : Int) = (k : Int) := by
  obtain ⟨n, hn, he⟩ := and_any x m hm
  refine ⟨n % q, Nat.mod_lt _ hq, ?_⟩
  rw [he, Int.tmod_eq_emod_of_nonneg (by omega)]
  exact (Int.natCast_emod n q).symm
theorem and_one (x : Int) : bits .and .i64 x 1 = 0 ∨ bits .and .i64 x 1 = 1 := by
  obtain ⟨n, hn, he⟩ := and_any x 1 (by decide)
  have : bits .and .i64 x 1 = (n : Int) := he
  omega
theorem inBounds {a : Int} (h : (Lit.int .i64 a).wf = true) : -9223372036854775808 ≤ a ∧ a ≤ 9223372036854775807 := by
  simpa [Lit.wf, IntKind.min, IntKind.max, IntKind.signed, IntKind.bits] using h
theorem wrap_wrap (m n : Int) : wrap64 (m - wrap64 n) = wrap64 (m - n) := by unfold wrap64; omega
theorem rem_eq (a b : Int) (h1 : -9223372036854775808 ≤ a) (h2 : a ≤ 9223372036854775807) (h3 : -9223372036854775808 ≤ b) (h4 : b ≤ 9223372036854775807) (hb : b ≠ 0) : wrap64 (a - b * wrap64 (a.tdiv b)) = a.tmod b := by
  have e1 : a.tmod b = a - b * a.tdiv b := Int.tmod_def a b
  have e2 : (a.tmod b).natAbs < b.natAbs := by
    rw [Int.natAbs_tmod]; exact Nat.mod_lt _ (by omega)
  have e3 : ∃ q, wrap64 (a.tdiv b) = a.tdiv b + 18446744073709551616 * q := ⟨(wrap64 (a.tdiv b) - a.tdiv b) / 18446744073709551616, by unfold wrap64; omega⟩
  obtain ⟨q, hq⟩ := e3
  have e4 : wrap64 (a - b * wrap64 (a.tdiv b)) = wrap64 (a.tmod b) := by
    apply wrap_mod
    rw [hq, e1, Int.mul_add, Int.mul_left_comm]
    omega
  rw [e4]; unfold wrap64; omega
theorem ref_copy (a b c : Int) (w : World) : Calls Try.prog 7 #[.string ⟨#[99, 111, 112, 121]⟩, .int .i64 a, .int .i64 b, .int .i64 c] w fun e w' => e = .returned (.int .i64 (a)) ∧ w' = w := by
  go_enter Try.func7, Try.ntmps7
  go_wp2
  go_ret
  exact ⟨by rfl, rfl⟩
theorem ref_neg (a b c : Int) (w : World) : Calls Try.prog 7 #[.string ⟨#[110, 101, 103]⟩, .int .i64 a, .int .i64 b, .int .i64 c] w fun e w' => e = .returned (.int .i64 (wrap64 (-a))) ∧ w' = w := by
  go_enter Try.func7, Try.ntmps7
  go_wp2
  go_ret
  exact ⟨by rfl, rfl⟩
theorem ref_add (a b c : Int) (w : World) : Calls Try.prog 7 #[.string ⟨#[43]⟩, .int .i64 a, .int .i64 b, .int .i64 c] w fun e w' => e = .returned (.int .i64 (wrap64 (a + b))) ∧ w' = w := by
  have e1 : wrap64 (IntKind.u64.wrap (IntKind.u64.wrap a + IntKind.u64.wrap b)) = wrap64 (a + b) := by rw [u64_is, u64_is, u64_is]; unfold wrap64; omega
  go_enter Try.func7, Try.ntmps7
  go_wp2
  go_ret
  exact ⟨by rw [← e1]; rfl, rfl⟩
theorem ref_sub (a b c : Int) (w : World) : Calls Try.prog 7 #[.string ⟨#[45]⟩, .int .i64 a, .int .i64 b, .int .i64 c] w fun e w' => e = .returned (.int .i64 (wrap64 (a - b))) ∧ w' = w := by
  have e1 : wrap64 (IntKind.u64.wrap (IntKind.u64.wrap a - IntKind.u64.wrap b)) = wrap64 (a - b) := by rw [u64_is, u64_is, u64_is]; unfold wrap64; omega
  go_enter Try.func7, Try.ntmps7
  go_wp2
  go_ret
  exact ⟨by rw [← e1]; rfl, rfl⟩
theorem ref_if (a b c : Int) (w : World) : Calls Try.prog 7 #[.string ⟨#[105, 102]⟩, .int .i64 a, .int .i64 b, .int .i64 c] w fun e w' => e = .returned (.int .i64 (if a = 0 then c else b)) ∧ w' = w := by
  by_cases ha : a = 0
  · subst ha
    go_enter Try.func7, Try.ntmps7
    go_wp2
    go_ret
    exact ⟨rfl, rfl⟩
  · simp only [if_neg ha]
    go_enter Try.func7, Try.ntmps7
    go_wp2
    go_ret
    exact ⟨rfl, rfl⟩
theorem ref_mul (a b c : Int) (w : World) : Calls Try.prog 7 #[.string ⟨#[42]⟩, .int .i64 a, .int .i64 b, .int .i64 c] w fun e w' => e = .returned (.int .i64 (wrap64 (a * b))) ∧ w' = w := by
  go_enter Try.func7, Try.ntmps7
  go_wp2_with fail
  refine (times_any a b w).mono ?_
  rintro x w1 ⟨rfl, rfl⟩
  go_wp2_with fail
  go_ret
  exact ⟨rfl, rfl⟩
theorem ref_div (a b c : Int) (h1 : -9223372036854775808 ≤ a) (h2 : a ≤ 9223372036854775807) (h3 : -9223372036854775808 ≤ b) (h4 : b ≤ 9223372036854775807) (hb : b ≠ 0) (w : World) : Calls Try.prog 7 #[.string ⟨#[47]⟩, .int .i64 a, .int .i64 b, .int .i64 c] w fun e w' => e = .returned (.int .i64 (wrap64 (a.tdiv b))) ∧ w' = w := by
  go_enter Try.func7, Try.ntmps7
  go_wp2_with fail
  refine (over_any a b h1 h2 h3 h4 hb w).mono ?_
  rintro x w1 ⟨rfl, rfl⟩
  go_wp2_with fail
  go_ret
  exact ⟨rfl, rfl⟩
theorem ref_mod (a b c : Int) (h1 : -9223372036854775808 ≤ a) (h2 : a ≤ 9223372036854775807) (h3 : -9223372036854775808 ≤ b) (h4 : b ≤ 9223372036854775807) (hb : b ≠ 0) (w : World) : Calls Try.prog 7 #[.string ⟨#[109, 111, 100]⟩, .int .i64 a, .int .i64 b, .int .i64 c] w fun e w' => e = .returned (.int .i64 (a.tmod b)) ∧ w' = w := by
  have e1 : wrap64 (IntKind.u64.wrap (IntKind.u64.wrap a - IntKind.u64.wrap (wrap64 (b * wrap64 (a.tdiv b))))) = a.tmod b := by
    rw [← rem_eq a b h1 h2 h3 h4 hb]
    generalize b * wrap64 (a.tdiv b) = m
    rw [u64_is, u64_is, u64_is]; unfold wrap64; omega
  go_enter Try.func7, Try.ntmps7
  go_wp2_with fail
  refine (over_any a b h1 h2 h3 h4 hb w).mono ?_
  rintro x w1 ⟨rfl, rfl⟩
  go_wp2_with fail
  refine (times_any b _ _).mono ?_
  rintro x w2 ⟨rfl, rfl⟩
  go_wp2_with fail
  go_ret
  exact ⟨by rw [← e1]; rfl, rfl⟩
theorem ref_not (a b c : Int) (w : World) : Calls Try.prog 7 #[.string ⟨#[110, 111, 116]⟩, .int .i64 a, .int .i64 b, .int .i64 c] w fun e w' => e = .returned (.int .i64 (b2i (a == 0))) ∧ w' = w := by
  go_enter Try.func7, Try.ntmps7
  go_wp2_with fail
  refine (truth_any (a == 0) w).mono ?_
  rintro x w1 ⟨rfl, rfl⟩
  go_wp2_with fail
  go_ret
  exact ⟨rfl, rfl⟩
theorem ref_xor (a b c : Int) (w : World) : Calls Try.prog 7 #[.string ⟨#[120, 111, 114]⟩, .int .i64 a, .int .i64 b, .int .i64 c] w fun e w' => e = .returned (.int .i64 (b2i (!(a == b)))) ∧ w' = w := by
  go_enter Try.func7, Try.ntmps7
  go_wp2_with fail
  refine (truth_any (!(a == b)) w).mono ?_
  rintro x w1 ⟨rfl, rfl⟩
  go_wp2_with fail
  go_ret
  exact ⟨rfl, rfl⟩
theorem ref_lt (a b c : Int) (w : World) : Calls Try.prog 7 #[.string ⟨#[60]⟩, .int .i64 a, .int .i64 b, .int .i64 c] w fun e w' => e = .returned (.int .i64 (b2i (decide (a < b)))) ∧ w' = w := by
  go_enter Try.func7, Try.ntmps7
  go_wp2_with fail
  refine (truth_any (decide (a < b)) w).mono ?_
  rintro x w1 ⟨rfl, rfl⟩
  go_wp2_with fail
  go_ret
  exact ⟨rfl, rfl⟩
theorem ref_le (a b c : Int) (w : World) : Calls Try.prog 7 #[.string ⟨#[60, 61]⟩, .int .i64 a, .int .i64 b, .int .i64 c] w fun e w' => e = .returned (.int .i64 (b2i (!decide (b < a)))) ∧ w' = w := by
  go_enter Try.func7, Try.ntmps7
  go_wp2_with fail
  refine (truth_any (!decide (b < a)) w).mono ?_
  rintro x w1 ⟨rfl, rfl⟩
  go_wp2_with fail
  go_ret
  exact ⟨rfl, rfl⟩
theorem ref_gt (a b c : Int) (w : World) : Calls Try.prog 7 #[.string ⟨#[62]⟩, .int .i64 a, .int .i64 b, .int .i64 c] w fun e w' => e = .returned (.int .i64 (b2i (decide (b < a)))) ∧ w' = w := by
  go_enter Try.func7, Try.ntmps7
  go_wp2_with fail
  refine (truth_any (decide (b < a)) w).mono ?_
  rintro x w1 ⟨rfl, rfl⟩
  go_wp2_with fail
  go_ret
  exact ⟨rfl, rfl⟩
theorem ref_ge (a b c : Int) (w : World) : Calls Try.prog 7 #[.string ⟨#[62, 61]⟩, .int .i64 a, .int .i64 b, .int .i64 c] w fun e w' => e = .returned (.int .i64 (b2i (!decide (a < b)))) ∧ w' = w := by
  go_enter Try.func7, Try.ntmps7
  go_wp2_with fail
  refine (truth_any (!decide (a < b)) w).mono ?_
  rintro x w1 ⟨rfl, rfl⟩
  go_wp2_with fail
  go_ret
  exact ⟨rfl, rfl⟩
theorem ref_eq (a b c : Int) (w : World) : Calls Try.prog 7 #[.string ⟨#[61]⟩, .int .i64 a, .int .i64 b, .int .i64 c] w fun e w' => e = .returned (.int .i64 (b2i (a == b))) ∧ w' = w := by
  go_enter Try.func7, Try.ntmps7
  go_wp2_with fail
  refine (truth_any (a == b) w).mono ?_
  rintro x w1 ⟨rfl, rfl⟩
  go_wp2_with fail
  go_ret
  exact ⟨rfl, rfl⟩
theorem ref_ne (a b c : Int) (w : World) : Calls Try.prog 7 #[.string ⟨#[60, 62]⟩, .int .i64 a, .int .i64 b, .int .i64 c] w fun e w' => e = .returned (.int .i64 (b2i (!(a == b)))) ∧ w' = w := by
  go_enter Try.func7, Try.ntmps7
  go_wp2_with fail
  refine (truth_any (!(a == b)) w).mono ?_
  rintro x w1 ⟨rfl, rfl⟩
  go_wp2_with fail
  go_ret
  exact ⟨rfl, rfl⟩
theorem ref_and (a b c : Int) (w : World) : Calls Try.prog 7 #[.string ⟨#[97, 110, 100]⟩, .int .i64 a, .int .i64 b, .int .i64 c] w fun e w' => e = .returned (.int .i64 (b2i (a == 1 && b == 1))) ∧ w' = w := by
  by_cases ha : a = 1
  · subst ha
    generalize hd : (b == 1) = d
    go_enter Try.func7, Try.ntmps7
    go_wp2_with fail
    refine (truth_any _ w).mono ?_
    rintro x w1 ⟨rfl, rfl⟩
    go_wp2_with fail
    go_ret
    exact ⟨by simp [hd], rfl⟩
  · have ha' : (a == 1) = false := by simpa using ha
    generalize hd : (b == 1) = d
    go_enter Try.func7, Try.ntmps7
    go_wp2_with fail
    refine (truth_any _ w).mono ?_
    rintro x w1 ⟨rfl, rfl⟩
    go_wp2_with fail
    go_ret
    exact ⟨by simp [hd, ha'], rfl⟩
theorem ref_or (a b c : Int) (w : World) : Calls Try.prog 7 #[.string ⟨#[111, 114]⟩, .int .i64 a, .int .i64 b, .int .i64 c] w fun e w' => e = .returned (.int .i64 (b2i (a == 1 || b == 1))) ∧ w' = w := by
  by_cases ha : a = 1
  · subst ha
    generalize hd : (b == 1) = d
    go_enter Try.func7, Try.ntmps7
    go_wp2_with fail
    refine (truth_any _ w).mono ?_
    rintro x w1 ⟨rfl, rfl⟩
    go_wp2_with fail
    go_ret
    exact ⟨by simp [hd], rfl⟩
  · have ha' : (a == 1) = false := by simpa using ha
    generalize hd : (b == 1) = d
    go_enter Try.func7, Try.ntmps7
    go_wp2_with fail
    refine (truth_any _ w).mono ?_
    rintro x w1 ⟨rfl, rfl⟩
    go_wp2_with fail
    go_ret
    exact ⟨by simp [hd, ha'], rfl⟩
end Go.Proofs.Ytblefgdiamppaaa
