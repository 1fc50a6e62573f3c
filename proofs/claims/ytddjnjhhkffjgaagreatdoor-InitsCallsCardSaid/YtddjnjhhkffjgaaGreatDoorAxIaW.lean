/-
  InitsArrows, walked to where its finitely many cases begin.
-/
import Derived.Test.YtddjnjhhkffjgaaGreatDoorAxWl
noncomputable section
namespace Go.Ax
open Go.RowKit Go.Proofs
set_option linter.unusedVariables false
set_option linter.unusedSimpArgs false
set_option maxRecDepth 100000
theorem initsArrows_awake (w : World) : Calls Tryz.prog 20 #[] w fun e w' => e = .returned (.bool true) ∧ Below w.heap.size w w' :=
  callsX_true (E := E1) e1_ok e1_intr e1_mix rfl (m := 2000) (k := 20) (args := []) (by kernel_rfl) (by kernel_rfl) (vs := []) ⟨rfl, fun k hk => by cases hk⟩
/-- What is run behind the number's being cut to size. -/
noncomputable def initsArrowsRest : Code := match Tryz.f6.body with
  | some (.seq _ (.seq _ (.seq _ r))) => r
  | _ => .skip
theorem initsArrows_walk (hc : ∀ k : Nat, k < 20 → ∀ b, endsTrue 4 ((comp E1 44 initsArrowsRest none).c (callX E1 2000) (fr k b) [] St0) = true) (n : Int) (b : Bool) (w : World) : Calls Tryz.prog 6 #[.int .i64 n, .bool b] w fun x w' => x = .returned (.bool true) ∧ Below w.heap.size w w' := by
  go_enter Tryz.func6, Tryz.ntmps6
  refine wp_seq_k fun K0 h0 => ?_
  have H0 := Lib.hid h0; clear h0
  go_wp2_with fail
  refine H0.out _ _ ?_
  clear H0 K0
  refine wp_seq_k fun K1 h1 => ?_
  have H1 := Lib.hid h1; clear h1
  go_wp2_with fail
  refine (initsArrows_awake w).mono ?_
  rintro x w1 ⟨rfl, hb1⟩
  go_wp2_with fail
  refine H1.out _ _ ?_
  clear H1 K1
  refine wp_seq_k fun K2 h2 => ?_
  have H2 := Lib.hid h2; clear h2
  go_wp2_with fail
  refine H2.out _ _ ?_
  clear H2 K2
  obtain ⟨k, hk, hz⟩ := and_mod n 255 20 (by decide) (by decide)
  have hz2 : (bits BinOp.and IntKind.i64 n 255).tmod 20 = (k : Int) := hz
  rw [hz2]
  refine codeX_true (c := initsArrowsRest) (E := E1) e1_ok e1_intr e1_mix rfl (m := 2000) (n := 44) (t := 4) (f := fr k b) (hc k hk b) (fr_ok rfl rfl) rfl rfl ?_
  intro act' w' hs hd ht hb2
  refine ⟨hd, .bool true, ?_, rfl, hb1.trans (hb2.mono hb1.size)⟩
  have h4 : act'.tmps.getD 4 undef = .bool true := by simp [Array.getD_eq_getD_getElem?, ht]
  simp [results, Tryz.f6, h4, go_sem, ht]
end Go.Ax
