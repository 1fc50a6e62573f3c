/-
  ValueApplies, sign by sign.
-/
import Derived.Test.YtblefgdiamppaaaVc
namespace Go.Proofs.Ytblefgdiamppaaa
open Go.ChangeShapes Go.WideShapes Go.ChangeAt Go.RowKit
set_option linter.unusedVariables false
set_option linter.unusedSimpArgs false
theorem va_gt (n a b c : Int) (hk : (bits .and .i64 n 65535).tmod 18 = 14) (w : World) : Calls Try.prog 3 #[.int .i64 n, .int .i64 a, .int .i64 b, .int .i64 c] w fun e w' => e = .returned (.bool true) ∧ Grown w w' := by
  go_enter Try.func3, Try.ntmps3
  go_wp2_with fail
  refine (awake_any w).mono ?_
  rintro x w1 ⟨rfl, hg1⟩
  have HG1 := Lib.hid hg1; clear hg1
  go_wp2_with fail
  refine (ref_gt a b c _).mono ?_
  rintro x w2 ⟨rfl, rfl⟩
  go_wp2_with fail
  refine (apply_gt a b _ _ (by go_simp) (by go_simp)).mono ?_
  rintro x w3 ⟨rfl, hg3⟩
  have HG3 := Lib.hid hg3; clear hg3
  go_wp2_with fail
  go_ret
  exact ⟨rfl, gtrans HG1.out (gtrans (by repeat (first | exact Grown.refl _ | apply Grown.drew | apply Grown.alloc)) HG3.out)⟩
theorem va_ge (n a b c : Int) (hk : (bits .and .i64 n 65535).tmod 18 = 15) (w : World) : Calls Try.prog 3 #[.int .i64 n, .int .i64 a, .int .i64 b, .int .i64 c] w fun e w' => e = .returned (.bool true) ∧ Grown w w' := by
  have e5 : (!decide (a < b)) = decide (b ≤ a) := by by_cases h : a < b <;> simp [h] <;> omega
  go_enter Try.func3, Try.ntmps3
  go_wp2_with fail
  refine (awake_any w).mono ?_
  rintro x w1 ⟨rfl, hg1⟩
  have HG1 := Lib.hid hg1; clear hg1
  go_wp2_with fail
  refine (ref_ge a b c _).mono ?_
  rintro x w2 ⟨rfl, rfl⟩
  go_wp2_with fail
  refine (apply_ge a b _ _ (by go_simp) (by go_simp)).mono ?_
  rintro x w3 ⟨rfl, hg3⟩
  have HG3 := Lib.hid hg3; clear hg3
  go_wp2_with fail
  go_ret
  exact ⟨rfl, gtrans HG1.out (gtrans (by repeat (first | exact Grown.refl _ | apply Grown.drew | apply Grown.alloc)) HG3.out)⟩
theorem va_eq (n a b c : Int) (hk : (bits .and .i64 n 65535).tmod 18 = 16) (w : World) : Calls Try.prog 3 #[.int .i64 n, .int .i64 a, .int .i64 b, .int .i64 c] w fun e w' => e = .returned (.bool true) ∧ Grown w w' := by
  go_enter Try.func3, Try.ntmps3
  go_wp2_with fail
  refine (awake_any w).mono ?_
  rintro x w1 ⟨rfl, hg1⟩
  have HG1 := Lib.hid hg1; clear hg1
  go_wp2_with fail
  refine (ref_eq a b c _).mono ?_
  rintro x w2 ⟨rfl, rfl⟩
  go_wp2_with fail
  refine (apply_eq a b _ _ (by go_simp) (by go_simp)).mono ?_
  rintro x w3 ⟨rfl, hg3⟩
  have HG3 := Lib.hid hg3; clear hg3
  go_wp2_with fail
  go_ret
  exact ⟨rfl, gtrans HG1.out (gtrans (by repeat (first | exact Grown.refl _ | apply Grown.drew | apply Grown.alloc)) HG3.out)⟩
theorem va_ne (n a b c : Int) (hk : (bits .and .i64 n 65535).tmod 18 = 17) (w : World) : Calls Try.prog 3 #[.int .i64 n, .int .i64 a, .int .i64 b, .int .i64 c] w fun e w' => e = .returned (.bool true) ∧ Grown w w' := by
  go_enter Try.func3, Try.ntmps3
  go_wp2_with fail
  refine (awake_any w).mono ?_
  rintro x w1 ⟨rfl, hg1⟩
  have HG1 := Lib.hid hg1; clear hg1
  go_wp2_with fail
  refine (ref_ne a b c _).mono ?_
  rintro x w2 ⟨rfl, rfl⟩
  go_wp2_with fail
  refine (apply_ne a b _ _ (by go_simp) (by go_simp)).mono ?_
  rintro x w3 ⟨rfl, hg3⟩
  have HG3 := Lib.hid hg3; clear hg3
  go_wp2_with fail
  go_ret
  exact ⟨rfl, gtrans HG1.out (gtrans (by repeat (first | exact Grown.refl _ | apply Grown.drew | apply Grown.alloc)) HG3.out)⟩
end Go.Proofs.Ytblefgdiamppaaa
