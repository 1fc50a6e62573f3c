/-
  ValueApplies, sign by sign.
-/
import Derived.Test.YtblefgdiamppaaaVc
namespace Go.Proofs.Ytblefgdiamppaaa
open Go.ChangeShapes Go.WideShapes Go.ChangeAt Go.RowKit
set_option linter.unusedVariables false
set_option linter.unusedSimpArgs false
theorem va_or00 (n a b c : Int) (ha : bits .and .i64 a 1 = 0) (hb : bits .and .i64 b 1 = 0) (hk : (bits .and .i64 n 65535).tmod 18 = 10) (w : World) : Calls Try.prog 3 #[.int .i64 n, .int .i64 a, .int .i64 b, .int .i64 c] w fun e w' => e = .returned (.bool true) ∧ Grown w w' := by
  have bf : b2i false = 0 := rfl
  have bt : b2i true = 1 := rfl
  have e5 : bits .or .i64 0 0 = 0 := by decide
  go_enter Try.func3, Try.ntmps3
  go_wp2_with fail
  refine (awake_any w).mono ?_
  rintro x w1 ⟨rfl, hg1⟩
  have HG1 := Lib.hid hg1; clear hg1
  go_wp2_with fail
  refine (ref_or 0 0 c _).mono ?_
  rintro x w2 ⟨rfl, rfl⟩
  go_wp2_with fail
  refine (apply_or 0 0 _ _ (by go_simp) (by go_simp)).mono ?_
  rintro x w3 ⟨rfl, hg3⟩
  have HG3 := Lib.hid hg3; clear hg3
  go_wp2_with fail
  go_ret
  exact ⟨rfl, gtrans HG1.out (gtrans (by repeat (first | exact Grown.refl _ | apply Grown.drew | apply Grown.alloc)) HG3.out)⟩
theorem va_or01 (n a b c : Int) (ha : bits .and .i64 a 1 = 0) (hb : bits .and .i64 b 1 = 1) (hk : (bits .and .i64 n 65535).tmod 18 = 10) (w : World) : Calls Try.prog 3 #[.int .i64 n, .int .i64 a, .int .i64 b, .int .i64 c] w fun e w' => e = .returned (.bool true) ∧ Grown w w' := by
  have bf : b2i false = 0 := rfl
  have bt : b2i true = 1 := rfl
  have e5 : bits .or .i64 0 1 = 1 := by decide
  go_enter Try.func3, Try.ntmps3
  go_wp2_with fail
  refine (awake_any w).mono ?_
  rintro x w1 ⟨rfl, hg1⟩
  have HG1 := Lib.hid hg1; clear hg1
  go_wp2_with fail
  refine (ref_or 0 1 c _).mono ?_
  rintro x w2 ⟨rfl, rfl⟩
  go_wp2_with fail
  refine (apply_or 0 1 _ _ (by go_simp) (by go_simp)).mono ?_
  rintro x w3 ⟨rfl, hg3⟩
  have HG3 := Lib.hid hg3; clear hg3
  go_wp2_with fail
  go_ret
  exact ⟨rfl, gtrans HG1.out (gtrans (by repeat (first | exact Grown.refl _ | apply Grown.drew | apply Grown.alloc)) HG3.out)⟩
theorem va_or10 (n a b c : Int) (ha : bits .and .i64 a 1 = 1) (hb : bits .and .i64 b 1 = 0) (hk : (bits .and .i64 n 65535).tmod 18 = 10) (w : World) : Calls Try.prog 3 #[.int .i64 n, .int .i64 a, .int .i64 b, .int .i64 c] w fun e w' => e = .returned (.bool true) ∧ Grown w w' := by
  have bf : b2i false = 0 := rfl
  have bt : b2i true = 1 := rfl
  have e5 : bits .or .i64 1 0 = 1 := by decide
  go_enter Try.func3, Try.ntmps3
  go_wp2_with fail
  refine (awake_any w).mono ?_
  rintro x w1 ⟨rfl, hg1⟩
  have HG1 := Lib.hid hg1; clear hg1
  go_wp2_with fail
  refine (ref_or 1 0 c _).mono ?_
  rintro x w2 ⟨rfl, rfl⟩
  go_wp2_with fail
  refine (apply_or 1 0 _ _ (by go_simp) (by go_simp)).mono ?_
  rintro x w3 ⟨rfl, hg3⟩
  have HG3 := Lib.hid hg3; clear hg3
  go_wp2_with fail
  go_ret
  exact ⟨rfl, gtrans HG1.out (gtrans (by repeat (first | exact Grown.refl _ | apply Grown.drew | apply Grown.alloc)) HG3.out)⟩
theorem va_or11 (n a b c : Int) (ha : bits .and .i64 a 1 = 1) (hb : bits .and .i64 b 1 = 1) (hk : (bits .and .i64 n 65535).tmod 18 = 10) (w : World) : Calls Try.prog 3 #[.int .i64 n, .int .i64 a, .int .i64 b, .int .i64 c] w fun e w' => e = .returned (.bool true) ∧ Grown w w' := by
  have bf : b2i false = 0 := rfl
  have bt : b2i true = 1 := rfl
  have e5 : bits .or .i64 1 1 = 1 := by decide
  go_enter Try.func3, Try.ntmps3
  go_wp2_with fail
  refine (awake_any w).mono ?_
  rintro x w1 ⟨rfl, hg1⟩
  have HG1 := Lib.hid hg1; clear hg1
  go_wp2_with fail
  refine (ref_or 1 1 c _).mono ?_
  rintro x w2 ⟨rfl, rfl⟩
  go_wp2_with fail
  refine (apply_or 1 1 _ _ (by go_simp) (by go_simp)).mono ?_
  rintro x w3 ⟨rfl, hg3⟩
  have HG3 := Lib.hid hg3; clear hg3
  go_wp2_with fail
  go_ret
  exact ⟨rfl, gtrans HG1.out (gtrans (by repeat (first | exact Grown.refl _ | apply Grown.drew | apply Grown.alloc)) HG3.out)⟩
theorem va_xor00 (n a b c : Int) (ha : bits .and .i64 a 1 = 0) (hb : bits .and .i64 b 1 = 0) (hk : (bits .and .i64 n 65535).tmod 18 = 11) (w : World) : Calls Try.prog 3 #[.int .i64 n, .int .i64 a, .int .i64 b, .int .i64 c] w fun e w' => e = .returned (.bool true) ∧ Grown w w' := by
  have bf : b2i false = 0 := rfl
  have bt : b2i true = 1 := rfl
  have e5 : bits .xor .i64 0 0 = 0 := by decide
  go_enter Try.func3, Try.ntmps3
  go_wp2_with fail
  refine (awake_any w).mono ?_
  rintro x w1 ⟨rfl, hg1⟩
  have HG1 := Lib.hid hg1; clear hg1
  go_wp2_with fail
  refine (ref_xor 0 0 c _).mono ?_
  rintro x w2 ⟨rfl, rfl⟩
  go_wp2_with fail
  refine (apply_xor 0 0 _ _ (by go_simp) (by go_simp)).mono ?_
  rintro x w3 ⟨rfl, hg3⟩
  have HG3 := Lib.hid hg3; clear hg3
  go_wp2_with fail
  go_ret
  exact ⟨rfl, gtrans HG1.out (gtrans (by repeat (first | exact Grown.refl _ | apply Grown.drew | apply Grown.alloc)) HG3.out)⟩
theorem va_xor01 (n a b c : Int) (ha : bits .and .i64 a 1 = 0) (hb : bits .and .i64 b 1 = 1) (hk : (bits .and .i64 n 65535).tmod 18 = 11) (w : World) : Calls Try.prog 3 #[.int .i64 n, .int .i64 a, .int .i64 b, .int .i64 c] w fun e w' => e = .returned (.bool true) ∧ Grown w w' := by
  have bf : b2i false = 0 := rfl
  have bt : b2i true = 1 := rfl
  have e5 : bits .xor .i64 0 1 = 1 := by decide
  go_enter Try.func3, Try.ntmps3
  go_wp2_with fail
  refine (awake_any w).mono ?_
  rintro x w1 ⟨rfl, hg1⟩
  have HG1 := Lib.hid hg1; clear hg1
  go_wp2_with fail
  refine (ref_xor 0 1 c _).mono ?_
  rintro x w2 ⟨rfl, rfl⟩
  go_wp2_with fail
  refine (apply_xor 0 1 _ _ (by go_simp) (by go_simp)).mono ?_
  rintro x w3 ⟨rfl, hg3⟩
  have HG3 := Lib.hid hg3; clear hg3
  go_wp2_with fail
  go_ret
  exact ⟨rfl, gtrans HG1.out (gtrans (by repeat (first | exact Grown.refl _ | apply Grown.drew | apply Grown.alloc)) HG3.out)⟩
theorem va_xor10 (n a b c : Int) (ha : bits .and .i64 a 1 = 1) (hb : bits .and .i64 b 1 = 0) (hk : (bits .and .i64 n 65535).tmod 18 = 11) (w : World) : Calls Try.prog 3 #[.int .i64 n, .int .i64 a, .int .i64 b, .int .i64 c] w fun e w' => e = .returned (.bool true) ∧ Grown w w' := by
  have bf : b2i false = 0 := rfl
  have bt : b2i true = 1 := rfl
  have e5 : bits .xor .i64 1 0 = 1 := by decide
  go_enter Try.func3, Try.ntmps3
  go_wp2_with fail
  refine (awake_any w).mono ?_
  rintro x w1 ⟨rfl, hg1⟩
  have HG1 := Lib.hid hg1; clear hg1
  go_wp2_with fail
  refine (ref_xor 1 0 c _).mono ?_
  rintro x w2 ⟨rfl, rfl⟩
  go_wp2_with fail
  refine (apply_xor 1 0 _ _ (by go_simp) (by go_simp)).mono ?_
  rintro x w3 ⟨rfl, hg3⟩
  have HG3 := Lib.hid hg3; clear hg3
  go_wp2_with fail
  go_ret
  exact ⟨rfl, gtrans HG1.out (gtrans (by repeat (first | exact Grown.refl _ | apply Grown.drew | apply Grown.alloc)) HG3.out)⟩
theorem va_xor11 (n a b c : Int) (ha : bits .and .i64 a 1 = 1) (hb : bits .and .i64 b 1 = 1) (hk : (bits .and .i64 n 65535).tmod 18 = 11) (w : World) : Calls Try.prog 3 #[.int .i64 n, .int .i64 a, .int .i64 b, .int .i64 c] w fun e w' => e = .returned (.bool true) ∧ Grown w w' := by
  have bf : b2i false = 0 := rfl
  have bt : b2i true = 1 := rfl
  have e5 : bits .xor .i64 1 1 = 0 := by decide
  go_enter Try.func3, Try.ntmps3
  go_wp2_with fail
  refine (awake_any w).mono ?_
  rintro x w1 ⟨rfl, hg1⟩
  have HG1 := Lib.hid hg1; clear hg1
  go_wp2_with fail
  refine (ref_xor 1 1 c _).mono ?_
  rintro x w2 ⟨rfl, rfl⟩
  go_wp2_with fail
  refine (apply_xor 1 1 _ _ (by go_simp) (by go_simp)).mono ?_
  rintro x w3 ⟨rfl, hg3⟩
  have HG3 := Lib.hid hg3; clear hg3
  go_wp2_with fail
  go_ret
  exact ⟨rfl, gtrans HG1.out (gtrans (by repeat (first | exact Grown.refl _ | apply Grown.drew | apply Grown.alloc)) HG3.out)⟩
theorem va_lt (n a b c : Int) (hk : (bits .and .i64 n 65535).tmod 18 = 12) (w : World) : Calls Try.prog 3 #[.int .i64 n, .int .i64 a, .int .i64 b, .int .i64 c] w fun e w' => e = .returned (.bool true) ∧ Grown w w' := by
  go_enter Try.func3, Try.ntmps3
  go_wp2_with fail
  refine (awake_any w).mono ?_
  rintro x w1 ⟨rfl, hg1⟩
  have HG1 := Lib.hid hg1; clear hg1
  go_wp2_with fail
  refine (ref_lt a b c _).mono ?_
  rintro x w2 ⟨rfl, rfl⟩
  go_wp2_with fail
  refine (apply_lt a b _ _ (by go_simp) (by go_simp)).mono ?_
  rintro x w3 ⟨rfl, hg3⟩
  have HG3 := Lib.hid hg3; clear hg3
  go_wp2_with fail
  go_ret
  exact ⟨rfl, gtrans HG1.out (gtrans (by repeat (first | exact Grown.refl _ | apply Grown.drew | apply Grown.alloc)) HG3.out)⟩
theorem va_le (n a b c : Int) (hk : (bits .and .i64 n 65535).tmod 18 = 13) (w : World) : Calls Try.prog 3 #[.int .i64 n, .int .i64 a, .int .i64 b, .int .i64 c] w fun e w' => e = .returned (.bool true) ∧ Grown w w' := by
  have e5 : (!decide (b < a)) = decide (a ≤ b) := by by_cases h : b < a <;> simp [h] <;> omega
  go_enter Try.func3, Try.ntmps3
  go_wp2_with fail
  refine (awake_any w).mono ?_
  rintro x w1 ⟨rfl, hg1⟩
  have HG1 := Lib.hid hg1; clear hg1
  go_wp2_with fail
  refine (ref_le a b c _).mono ?_
  rintro x w2 ⟨rfl, rfl⟩
  go_wp2_with fail
  refine (apply_le a b _ _ (by go_simp) (by go_simp)).mono ?_
  rintro x w3 ⟨rfl, hg3⟩
  have HG3 := Lib.hid hg3; clear hg3
  go_wp2_with fail
  go_ret
  exact ⟨rfl, gtrans HG1.out (gtrans (by repeat (first | exact Grown.refl _ | apply Grown.drew | apply Grown.alloc)) HG3.out)⟩
end Go.Proofs.Ytblefgdiamppaaa
