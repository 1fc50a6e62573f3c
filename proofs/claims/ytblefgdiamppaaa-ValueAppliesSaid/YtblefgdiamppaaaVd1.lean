/-
  ValueApplies, sign by sign.
-/
import Derived.Test.YtblefgdiamppaaaVc
namespace Go.Proofs.Ytblefgdiamppaaa
open Go.ChangeShapes Go.WideShapes Go.ChangeAt Go.RowKit
set_option linter.unusedVariables false
set_option linter.unusedSimpArgs false
theorem va_div1 (n a b c : Int) (h1 : -9223372036854775808 ≤ a) (h2 : a ≤ 9223372036854775807) (h3 : -9223372036854775808 ≤ b) (h4 : b ≤ 9223372036854775807) (hb : b ≠ 0) (hk : (bits .and .i64 n 65535).tmod 18 = 7) (w : World) : Calls Try.prog 3 #[.int .i64 n, .int .i64 a, .int .i64 b, .int .i64 c] w fun e w' => e = .returned (.bool true) ∧ Grown w w' := by
  go_enter Try.func3, Try.ntmps3
  go_wp2_with fail
  refine (awake_any w).mono ?_
  rintro x w1 ⟨rfl, hg1⟩
  have HG1 := Lib.hid hg1; clear hg1
  go_wp2_with fail
  refine (ref_div a b c h1 h2 h3 h4 hb _).mono ?_
  rintro x w2 ⟨rfl, rfl⟩
  go_wp2_with fail
  refine (apply_div a b hb _ _ (by go_simp) (by go_simp)).mono ?_
  rintro x w3 ⟨rfl, hg3⟩
  have HG3 := Lib.hid hg3; clear hg3
  go_wp2_with fail
  go_ret
  exact ⟨rfl, gtrans HG1.out (gtrans (by repeat (first | exact Grown.refl _ | apply Grown.drew | apply Grown.alloc)) HG3.out)⟩
theorem va_div0 (n a b c : Int) (h1 : -9223372036854775808 ≤ a) (h2 : a ≤ 9223372036854775807) (hb : b = 0) (hk : (bits .and .i64 n 65535).tmod 18 = 7) (w : World) : Calls Try.prog 3 #[.int .i64 n, .int .i64 a, .int .i64 b, .int .i64 c] w fun e w' => e = .returned (.bool true) ∧ Grown w w' := by
  subst hb
  go_enter Try.func3, Try.ntmps3
  go_wp2_with fail
  refine (awake_any w).mono ?_
  rintro x w1 ⟨rfl, hg1⟩
  have HG1 := Lib.hid hg1; clear hg1
  go_wp2_with fail
  refine (ref_div a 1 c h1 h2 (by decide) (by decide) (by decide) _).mono ?_
  rintro x w2 ⟨rfl, rfl⟩
  go_wp2_with fail
  refine (apply_div a 1 (by decide) _ _ (by go_simp) (by go_simp)).mono ?_
  rintro x w3 ⟨rfl, hg3⟩
  have HG3 := Lib.hid hg3; clear hg3
  go_wp2_with fail
  go_ret
  exact ⟨rfl, gtrans HG1.out (gtrans (by repeat (first | exact Grown.refl _ | apply Grown.drew | apply Grown.alloc)) HG3.out)⟩
theorem va_mod1 (n a b c : Int) (h1 : -9223372036854775808 ≤ a) (h2 : a ≤ 9223372036854775807) (h3 : -9223372036854775808 ≤ b) (h4 : b ≤ 9223372036854775807) (hb : b ≠ 0) (hk : (bits .and .i64 n 65535).tmod 18 = 8) (w : World) : Calls Try.prog 3 #[.int .i64 n, .int .i64 a, .int .i64 b, .int .i64 c] w fun e w' => e = .returned (.bool true) ∧ Grown w w' := by
  go_enter Try.func3, Try.ntmps3
  go_wp2_with fail
  refine (awake_any w).mono ?_
  rintro x w1 ⟨rfl, hg1⟩
  have HG1 := Lib.hid hg1; clear hg1
  go_wp2_with fail
  refine (ref_mod a b c h1 h2 h3 h4 hb _).mono ?_
  rintro x w2 ⟨rfl, rfl⟩
  go_wp2_with fail
  refine (apply_mod a b hb _ _ (by go_simp) (by go_simp)).mono ?_
  rintro x w3 ⟨rfl, hg3⟩
  have HG3 := Lib.hid hg3; clear hg3
  go_wp2_with fail
  go_ret
  exact ⟨rfl, gtrans HG1.out (gtrans (by repeat (first | exact Grown.refl _ | apply Grown.drew | apply Grown.alloc)) HG3.out)⟩
theorem va_mod0 (n a b c : Int) (h1 : -9223372036854775808 ≤ a) (h2 : a ≤ 9223372036854775807) (hb : b = 0) (hk : (bits .and .i64 n 65535).tmod 18 = 8) (w : World) : Calls Try.prog 3 #[.int .i64 n, .int .i64 a, .int .i64 b, .int .i64 c] w fun e w' => e = .returned (.bool true) ∧ Grown w w' := by
  subst hb
  go_enter Try.func3, Try.ntmps3
  go_wp2_with fail
  refine (awake_any w).mono ?_
  rintro x w1 ⟨rfl, hg1⟩
  have HG1 := Lib.hid hg1; clear hg1
  go_wp2_with fail
  refine (ref_mod a 1 c h1 h2 (by decide) (by decide) (by decide) _).mono ?_
  rintro x w2 ⟨rfl, rfl⟩
  go_wp2_with fail
  refine (apply_mod a 1 (by decide) _ _ (by go_simp) (by go_simp)).mono ?_
  rintro x w3 ⟨rfl, hg3⟩
  have HG3 := Lib.hid hg3; clear hg3
  go_wp2_with fail
  go_ret
  exact ⟨rfl, gtrans HG1.out (gtrans (by repeat (first | exact Grown.refl _ | apply Grown.drew | apply Grown.alloc)) HG3.out)⟩
theorem va_and00 (n a b c : Int) (ha : bits .and .i64 a 1 = 0) (hb : bits .and .i64 b 1 = 0) (hk : (bits .and .i64 n 65535).tmod 18 = 9) (w : World) : Calls Try.prog 3 #[.int .i64 n, .int .i64 a, .int .i64 b, .int .i64 c] w fun e w' => e = .returned (.bool true) ∧ Grown w w' := by
  have bf : b2i false = 0 := rfl
  have bt : b2i true = 1 := rfl
  have e5 : bits .and .i64 0 0 = 0 := by decide
  go_enter Try.func3, Try.ntmps3
  go_wp2_with fail
  refine (awake_any w).mono ?_
  rintro x w1 ⟨rfl, hg1⟩
  have HG1 := Lib.hid hg1; clear hg1
  go_wp2_with fail
  refine (ref_and 0 0 c _).mono ?_
  rintro x w2 ⟨rfl, rfl⟩
  go_wp2_with fail
  refine (apply_and 0 0 _ _ (by go_simp) (by go_simp)).mono ?_
  rintro x w3 ⟨rfl, hg3⟩
  have HG3 := Lib.hid hg3; clear hg3
  go_wp2_with fail
  go_ret
  exact ⟨rfl, gtrans HG1.out (gtrans (by repeat (first | exact Grown.refl _ | apply Grown.drew | apply Grown.alloc)) HG3.out)⟩
theorem va_and01 (n a b c : Int) (ha : bits .and .i64 a 1 = 0) (hb : bits .and .i64 b 1 = 1) (hk : (bits .and .i64 n 65535).tmod 18 = 9) (w : World) : Calls Try.prog 3 #[.int .i64 n, .int .i64 a, .int .i64 b, .int .i64 c] w fun e w' => e = .returned (.bool true) ∧ Grown w w' := by
  have bf : b2i false = 0 := rfl
  have bt : b2i true = 1 := rfl
  have e5 : bits .and .i64 0 1 = 0 := by decide
  go_enter Try.func3, Try.ntmps3
  go_wp2_with fail
  refine (awake_any w).mono ?_
  rintro x w1 ⟨rfl, hg1⟩
  have HG1 := Lib.hid hg1; clear hg1
  go_wp2_with fail
  refine (ref_and 0 1 c _).mono ?_
  rintro x w2 ⟨rfl, rfl⟩
  go_wp2_with fail
  refine (apply_and 0 1 _ _ (by go_simp) (by go_simp)).mono ?_
  rintro x w3 ⟨rfl, hg3⟩
  have HG3 := Lib.hid hg3; clear hg3
  go_wp2_with fail
  go_ret
  exact ⟨rfl, gtrans HG1.out (gtrans (by repeat (first | exact Grown.refl _ | apply Grown.drew | apply Grown.alloc)) HG3.out)⟩
theorem va_and10 (n a b c : Int) (ha : bits .and .i64 a 1 = 1) (hb : bits .and .i64 b 1 = 0) (hk : (bits .and .i64 n 65535).tmod 18 = 9) (w : World) : Calls Try.prog 3 #[.int .i64 n, .int .i64 a, .int .i64 b, .int .i64 c] w fun e w' => e = .returned (.bool true) ∧ Grown w w' := by
  have bf : b2i false = 0 := rfl
  have bt : b2i true = 1 := rfl
  have e5 : bits .and .i64 1 0 = 0 := by decide
  go_enter Try.func3, Try.ntmps3
  go_wp2_with fail
  refine (awake_any w).mono ?_
  rintro x w1 ⟨rfl, hg1⟩
  have HG1 := Lib.hid hg1; clear hg1
  go_wp2_with fail
  refine (ref_and 1 0 c _).mono ?_
  rintro x w2 ⟨rfl, rfl⟩
  go_wp2_with fail
  refine (apply_and 1 0 _ _ (by go_simp) (by go_simp)).mono ?_
  rintro x w3 ⟨rfl, hg3⟩
  have HG3 := Lib.hid hg3; clear hg3
  go_wp2_with fail
  go_ret
  exact ⟨rfl, gtrans HG1.out (gtrans (by repeat (first | exact Grown.refl _ | apply Grown.drew | apply Grown.alloc)) HG3.out)⟩
theorem va_and11 (n a b c : Int) (ha : bits .and .i64 a 1 = 1) (hb : bits .and .i64 b 1 = 1) (hk : (bits .and .i64 n 65535).tmod 18 = 9) (w : World) : Calls Try.prog 3 #[.int .i64 n, .int .i64 a, .int .i64 b, .int .i64 c] w fun e w' => e = .returned (.bool true) ∧ Grown w w' := by
  have bf : b2i false = 0 := rfl
  have bt : b2i true = 1 := rfl
  have e5 : bits .and .i64 1 1 = 1 := by decide
  go_enter Try.func3, Try.ntmps3
  go_wp2_with fail
  refine (awake_any w).mono ?_
  rintro x w1 ⟨rfl, hg1⟩
  have HG1 := Lib.hid hg1; clear hg1
  go_wp2_with fail
  refine (ref_and 1 1 c _).mono ?_
  rintro x w2 ⟨rfl, rfl⟩
  go_wp2_with fail
  refine (apply_and 1 1 _ _ (by go_simp) (by go_simp)).mono ?_
  rintro x w3 ⟨rfl, hg3⟩
  have HG3 := Lib.hid hg3; clear hg3
  go_wp2_with fail
  go_ret
  exact ⟨rfl, gtrans HG1.out (gtrans (by repeat (first | exact Grown.refl _ | apply Grown.drew | apply Grown.alloc)) HG3.out)⟩
end Go.Proofs.Ytblefgdiamppaaa
