/-
  ValueApplies, sign by sign.
-/
import Derived.Test.YtblefgdiamppaaaVc
namespace Go.Proofs.Ytblefgdiamppaaa
open Go.ChangeShapes Go.WideShapes Go.ChangeAt Go.RowKit
set_option linter.unusedVariables false
set_option linter.unusedSimpArgs false
theorem va_copy (n a b c : Int) (hk : (bits .and .i64 n 65535).tmod 18 = 0) (w : World) : Calls Try.prog 3 #[.int .i64 n, .int .i64 a, .int .i64 b, .int .i64 c] w fun e w' => e = .returned (.bool true) ∧ Grown w w' := by
  go_enter Try.func3, Try.ntmps3
  go_wp2_with fail
  refine (awake_any w).mono ?_
  rintro x w1 ⟨rfl, hg1⟩
  have HG1 := Lib.hid hg1; clear hg1
  go_wp2_with fail
  refine (ref_copy a b c _).mono ?_
  rintro x w2 ⟨rfl, rfl⟩
  go_wp2_with fail
  refine (apply_copy a _ _ (by go_simp)).mono ?_
  rintro x w3 ⟨rfl, hg3⟩
  have HG3 := Lib.hid hg3; clear hg3
  go_wp2_with fail
  go_ret
  exact ⟨rfl, gtrans HG1.out (gtrans (by repeat (first | exact Grown.refl _ | apply Grown.drew | apply Grown.alloc)) HG3.out)⟩
theorem va_neg (n a b c : Int) (hk : (bits .and .i64 n 65535).tmod 18 = 1) (w : World) : Calls Try.prog 3 #[.int .i64 n, .int .i64 a, .int .i64 b, .int .i64 c] w fun e w' => e = .returned (.bool true) ∧ Grown w w' := by
  go_enter Try.func3, Try.ntmps3
  go_wp2_with fail
  refine (awake_any w).mono ?_
  rintro x w1 ⟨rfl, hg1⟩
  have HG1 := Lib.hid hg1; clear hg1
  go_wp2_with fail
  refine (ref_neg a b c _).mono ?_
  rintro x w2 ⟨rfl, rfl⟩
  go_wp2_with fail
  refine (apply_neg a _ _ (by go_simp)).mono ?_
  rintro x w3 ⟨rfl, hg3⟩
  have HG3 := Lib.hid hg3; clear hg3
  go_wp2_with fail
  go_ret
  exact ⟨rfl, gtrans HG1.out (gtrans (by repeat (first | exact Grown.refl _ | apply Grown.drew | apply Grown.alloc)) HG3.out)⟩
theorem va_if (n a b c : Int) (hk : (bits .and .i64 n 65535).tmod 18 = 3) (w : World) : Calls Try.prog 3 #[.int .i64 n, .int .i64 a, .int .i64 b, .int .i64 c] w fun e w' => e = .returned (.bool true) ∧ Grown w w' := by
  obtain ⟨r, hr⟩ : ∃ r, (if a = 0 then c else b) = r := ⟨_, rfl⟩
  go_enter Try.func3, Try.ntmps3
  go_wp2_with fail
  refine (awake_any w).mono ?_
  rintro x w1 ⟨rfl, hg1⟩
  have HG1 := Lib.hid hg1; clear hg1
  go_wp2_with fail
  refine (ref_if a b c _).mono ?_
  rintro x w2 ⟨rfl, rfl⟩
  rw [hr]
  go_wp2_with fail
  refine (apply_if a b c _ _ (by go_simp) (by go_simp) (by go_simp)).mono ?_
  rintro x w3 ⟨rfl, hg3⟩
  rw [hr]
  have HG3 := Lib.hid hg3; clear hg3
  go_wp2_with fail
  go_ret
  exact ⟨rfl, gtrans HG1.out (gtrans (by repeat (first | exact Grown.refl _ | apply Grown.drew | apply Grown.alloc)) HG3.out)⟩
theorem va_add (n a b c : Int) (hk : (bits .and .i64 n 65535).tmod 18 = 4) (w : World) : Calls Try.prog 3 #[.int .i64 n, .int .i64 a, .int .i64 b, .int .i64 c] w fun e w' => e = .returned (.bool true) ∧ Grown w w' := by
  go_enter Try.func3, Try.ntmps3
  go_wp2_with fail
  refine (awake_any w).mono ?_
  rintro x w1 ⟨rfl, hg1⟩
  have HG1 := Lib.hid hg1; clear hg1
  go_wp2_with fail
  refine (ref_add a b c _).mono ?_
  rintro x w2 ⟨rfl, rfl⟩
  go_wp2_with fail
  refine (apply_add a b _ _ (by go_simp) (by go_simp)).mono ?_
  rintro x w3 ⟨rfl, hg3⟩
  have HG3 := Lib.hid hg3; clear hg3
  go_wp2_with fail
  go_ret
  exact ⟨rfl, gtrans HG1.out (gtrans (by repeat (first | exact Grown.refl _ | apply Grown.drew | apply Grown.alloc)) HG3.out)⟩
theorem va_sub (n a b c : Int) (hk : (bits .and .i64 n 65535).tmod 18 = 5) (w : World) : Calls Try.prog 3 #[.int .i64 n, .int .i64 a, .int .i64 b, .int .i64 c] w fun e w' => e = .returned (.bool true) ∧ Grown w w' := by
  go_enter Try.func3, Try.ntmps3
  go_wp2_with fail
  refine (awake_any w).mono ?_
  rintro x w1 ⟨rfl, hg1⟩
  have HG1 := Lib.hid hg1; clear hg1
  go_wp2_with fail
  refine (ref_sub a b c _).mono ?_
  rintro x w2 ⟨rfl, rfl⟩
  go_wp2_with fail
  refine (apply_sub a b _ _ (by go_simp) (by go_simp)).mono ?_
  rintro x w3 ⟨rfl, hg3⟩
  have HG3 := Lib.hid hg3; clear hg3
  go_wp2_with fail
  go_ret
  exact ⟨rfl, gtrans HG1.out (gtrans (by repeat (first | exact Grown.refl _ | apply Grown.drew | apply Grown.alloc)) HG3.out)⟩
theorem va_mul (n a b c : Int) (hk : (bits .and .i64 n 65535).tmod 18 = 6) (w : World) : Calls Try.prog 3 #[.int .i64 n, .int .i64 a, .int .i64 b, .int .i64 c] w fun e w' => e = .returned (.bool true) ∧ Grown w w' := by
  go_enter Try.func3, Try.ntmps3
  go_wp2_with fail
  refine (awake_any w).mono ?_
  rintro x w1 ⟨rfl, hg1⟩
  have HG1 := Lib.hid hg1; clear hg1
  go_wp2_with fail
  refine (ref_mul a b c _).mono ?_
  rintro x w2 ⟨rfl, rfl⟩
  go_wp2_with fail
  refine (apply_mul a b _ _ (by go_simp) (by go_simp)).mono ?_
  rintro x w3 ⟨rfl, hg3⟩
  have HG3 := Lib.hid hg3; clear hg3
  go_wp2_with fail
  go_ret
  exact ⟨rfl, gtrans HG1.out (gtrans (by repeat (first | exact Grown.refl _ | apply Grown.drew | apply Grown.alloc)) HG3.out)⟩
theorem va_not0 (n a b c : Int) (ha : bits .and .i64 a 1 = 0) (hk : (bits .and .i64 n 65535).tmod 18 = 2) (w : World) : Calls Try.prog 3 #[.int .i64 n, .int .i64 a, .int .i64 b, .int .i64 c] w fun e w' => e = .returned (.bool true) ∧ Grown w w' := by
  have bf : b2i false = 0 := rfl
  have bt : b2i true = 1 := rfl
  have e5 : wrap64 (1 - 0) = 1 := by unfold wrap64; omega
  have e7 : wrap64 1 = 1 := by unfold wrap64; omega
  go_enter Try.func3, Try.ntmps3
  go_wp2_with fail
  refine (awake_any w).mono ?_
  rintro x w1 ⟨rfl, hg1⟩
  have HG1 := Lib.hid hg1; clear hg1
  go_wp2_with fail
  refine (ref_not 0 _ c _).mono ?_
  rintro x w2 ⟨rfl, rfl⟩
  go_wp2_with fail
  refine (apply_not 0 _ _ (by go_simp)).mono ?_
  rintro x w3 ⟨rfl, hg3⟩
  have HG3 := Lib.hid hg3; clear hg3
  go_wp2_with fail
  go_ret
  exact ⟨rfl, gtrans HG1.out (gtrans (by repeat (first | exact Grown.refl _ | apply Grown.drew | apply Grown.alloc)) HG3.out)⟩
theorem va_not1 (n a b c : Int) (ha : bits .and .i64 a 1 = 1) (hk : (bits .and .i64 n 65535).tmod 18 = 2) (w : World) : Calls Try.prog 3 #[.int .i64 n, .int .i64 a, .int .i64 b, .int .i64 c] w fun e w' => e = .returned (.bool true) ∧ Grown w w' := by
  have bf : b2i false = 0 := rfl
  have bt : b2i true = 1 := rfl
  have e5 : wrap64 (1 - 1) = 0 := by unfold wrap64; omega
  have e7 : wrap64 0 = 0 := by unfold wrap64; omega
  go_enter Try.func3, Try.ntmps3
  go_wp2_with fail
  refine (awake_any w).mono ?_
  rintro x w1 ⟨rfl, hg1⟩
  have HG1 := Lib.hid hg1; clear hg1
  go_wp2_with fail
  refine (ref_not 1 _ c _).mono ?_
  rintro x w2 ⟨rfl, rfl⟩
  go_wp2_with fail
  refine (apply_not 1 _ _ (by go_simp)).mono ?_
  rintro x w3 ⟨rfl, hg3⟩
  have HG3 := Lib.hid hg3; clear hg3
  go_wp2_with fail
  go_ret
  exact ⟨rfl, gtrans HG1.out (gtrans (by repeat (first | exact Grown.refl _ | apply Grown.drew | apply Grown.alloc)) HG3.out)⟩
end Go.Proofs.Ytblefgdiamppaaa
