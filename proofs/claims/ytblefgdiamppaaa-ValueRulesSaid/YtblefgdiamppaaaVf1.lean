/-
  ValueRules, walked: one of three cases.
-/
import Derived.Test.YtblefgdiamppaaaVf
namespace Go.Proofs.Ytblefgdiamppaaa
open Go.ChangeShapes Go.WideShapes Go.ChangeAt Go.RowKit
set_option linter.unusedVariables false
set_option linter.unusedSimpArgs false
set_option maxRecDepth 20000
set_option maxHeartbeats 8000000 in
theorem vr_eq (a b c : Int) (h1 : -9223372036854775808 ≤ a) (h2 : a ≤ 9223372036854775807) (h3 : -9223372036854775808 ≤ b) (h4 : b ≤ 9223372036854775807) (hc : a = b) (w : World) : Calls Try.prog 5 #[.int .i64 a, .int .i64 b, .int .i64 c] w fun e w' => e = .returned (.bool true) ∧ Grown w w' := by
  have e1 : wrap64 (b + a) = wrap64 (a + b) := by rw [Int.add_comm]
  have e2 := dist_eq a b c
  have e3 : wrap64 (a + wrap64 (-a)) = 0 := by unfold wrap64; omega
  have e4 : wrap64 (wrap64 (a + b) - b) = a := by unfold wrap64; omega
  have Hltab := Lib.hid (show decide (a < b) = false from by simp <;> omega)
  have Hgtba := Lib.hid (show decide (a < b) = false from by simp <;> omega)
  have Hleab := Lib.hid (show decide (a ≤ b) = true from by simp <;> omega)
  have Hgtab := Lib.hid (show decide (b < a) = false from by simp <;> omega)
  have Hgeab := Lib.hid (show decide (b ≤ a) = true from by simp <;> omega)
  have Heqab := Lib.hid (show (a == b) = true from by simp <;> omega)
  have Hneab := Lib.hid (show (!(a == b)) = false from by simp <;> omega)
  have Heqaa := Lib.hid (show (a == a) = true from by simp <;> omega)
  clear h1 h2 h3 h4
  have HC := Lib.hid hc; clear hc
  go_enter Try.func5, Try.ntmps5
  go_wp2_with fail
  refine (awake_any _).mono ?_
  rintro x w1 ⟨rfl, hg1⟩
  have HG1 := Lib.hid hg1; clear hg1
  go_wp2_with fail
  refine (add_any a b _).mono ?_
  rintro x w2 ⟨rfl, hg2⟩
  have HG2 := Lib.hid hg2; clear hg2
  go_wp2_with fail
  refine (add_any b a _).mono ?_
  rintro x w3 ⟨rfl, hg3⟩
  have HG3 := Lib.hid hg3; clear hg3
  go_wp2_with fail
  refine (add_any b c _).mono ?_
  rintro x w4 ⟨rfl, hg4⟩
  have HG4 := Lib.hid hg4; clear hg4
  go_wp2_with fail
  refine (mul_any a (wrap64 (b + c)) _).mono ?_
  rintro x w5 ⟨rfl, hg5⟩
  have HG5 := Lib.hid hg5; clear hg5
  go_wp2_with fail
  refine (mul_any a b _).mono ?_
  rintro x w6 ⟨rfl, hg6⟩
  have HG6 := Lib.hid hg6; clear hg6
  go_wp2_with fail
  refine (mul_any a c _).mono ?_
  rintro x w7 ⟨rfl, hg7⟩
  have HG7 := Lib.hid hg7; clear hg7
  go_wp2_with fail
  refine (add_any (wrap64 (a * b)) (wrap64 (a * c)) _).mono ?_
  rintro x w8 ⟨rfl, hg8⟩
  have HG8 := Lib.hid hg8; clear hg8
  go_wp2_with fail
  refine (apply_neg a _ _ (by go_simp)).mono ?_
  rintro x w9 ⟨rfl, hg9⟩
  have HG9 := Lib.hid hg9; clear hg9
  go_wp2_with fail
  refine (add_any a (wrap64 (-a)) _).mono ?_
  rintro x w10 ⟨rfl, hg10⟩
  have HG10 := Lib.hid hg10; clear hg10
  go_wp2_with fail
  refine (add_any a b _).mono ?_
  rintro x w11 ⟨rfl, hg11⟩
  have HG11 := Lib.hid hg11; clear hg11
  go_wp2_with fail
  refine (apply_sub (wrap64 (a + b)) b _ _ (by go_simp) (by go_simp)).mono ?_
  rintro x w12 ⟨rfl, hg12⟩
  have HG12 := Lib.hid hg12; clear hg12
  go_wp2_with fail
  refine (is_any ⟨#[60]⟩ a b false _ (fun g w p q => by have r := apply_lt a b g w p q; rwa [Hltab.out] at r)).mono ?_
  rintro x w13 ⟨rfl, hg13⟩
  have HG13 := Lib.hid hg13; clear hg13
  go_wp2_with fail
  refine (is_any ⟨#[62]⟩ b a false _ (fun g w p q => by have r := apply_gt b a g w p q; rwa [Hgtba.out] at r)).mono ?_
  rintro x w14 ⟨rfl, hg14⟩
  have HG14 := Lib.hid hg14; clear hg14
  go_wp2_with fail
  refine (is_any ⟨#[60, 61]⟩ a b true _ (fun g w p q => by have r := apply_le a b g w p q; rwa [Hleab.out] at r)).mono ?_
  rintro x w15 ⟨rfl, hg15⟩
  have HG15 := Lib.hid hg15; clear hg15
  go_wp2_with fail
  refine (is_any ⟨#[62]⟩ a b false _ (fun g w p q => by have r := apply_gt a b g w p q; rwa [Hgtab.out] at r)).mono ?_
  rintro x w16 ⟨rfl, hg16⟩
  have HG16 := Lib.hid hg16; clear hg16
  go_wp2_with fail
  refine (is_any ⟨#[62, 61]⟩ a b true _ (fun g w p q => by have r := apply_ge a b g w p q; rwa [Hgeab.out] at r)).mono ?_
  rintro x w17 ⟨rfl, hg17⟩
  have HG17 := Lib.hid hg17; clear hg17
  go_wp2_with fail
  refine (is_any ⟨#[60]⟩ a b false _ (fun g w p q => by have r := apply_lt a b g w p q; rwa [Hltab.out] at r)).mono ?_
  rintro x w18 ⟨rfl, hg18⟩
  have HG18 := Lib.hid hg18; clear hg18
  go_wp2_with fail
  refine (is_any ⟨#[61]⟩ a b true _ (fun g w p q => by have r := apply_eq a b g w p q; rwa [Heqab.out] at r)).mono ?_
  rintro x w19 ⟨rfl, hg19⟩
  have HG19 := Lib.hid hg19; clear hg19
  go_wp2_with fail
  refine (is_any ⟨#[60, 62]⟩ a b false _ (fun g w p q => by have r := apply_ne a b g w p q; rwa [Hneab.out] at r)).mono ?_
  rintro x w20 ⟨rfl, hg20⟩
  have HG20 := Lib.hid hg20; clear hg20
  go_wp2_with fail
  refine (is_any ⟨#[61]⟩ a a true _ (fun g w p q => by have r := apply_eq a a g w p q; rwa [Heqaa.out] at r)).mono ?_
  rintro x w21 ⟨rfl, hg21⟩
  have HG21 := Lib.hid hg21; clear hg21
  go_wp2_with fail
  refine (apply_lt a b _ _ (by go_simp) (by go_simp)).mono ?_
  rintro x w22 ⟨rfl, hg22⟩
  have HG22 := Lib.hid hg22; clear hg22
  rw [Hltab.out, show b2i false = 0 from rfl]
  go_wp2_with fail
  refine (apply_if 0 a b _ _ (by go_simp) (by go_simp) (by go_simp)).mono ?_
  rintro x w23 ⟨rfl, hg23⟩
  have HG23 := Lib.hid hg23; clear hg23
  rw [if_pos rfl]
  have hc := HC.out
  have hm : min a b = b := by omega
  go_wp2_with fail
  go_ret
  exact ⟨rfl, gtrans (HG1.out) (gtrans (HG2.out) (gtrans (HG3.out) (gtrans (HG4.out) (gtrans (HG5.out) (gtrans (HG6.out) (gtrans (HG7.out) (gtrans (HG8.out) (gtrans (gtrans ((Grown.refl _).alloc _ _) HG9.out) (gtrans (HG10.out) (gtrans (HG11.out) (gtrans (gtrans ((Grown.refl _).alloc _ _) HG12.out) (gtrans (HG13.out) (gtrans (HG14.out) (gtrans (HG15.out) (gtrans (HG16.out) (gtrans (HG17.out) (gtrans (HG18.out) (gtrans (HG19.out) (gtrans (HG20.out) (gtrans (HG21.out) (gtrans (gtrans ((Grown.refl _).alloc _ _) HG22.out) (gtrans ((Grown.refl _).alloc _ _) HG23.out))))))))))))))))))))))⟩
end Go.Proofs.Ytblefgdiamppaaa
