/-
  ClocksOn, walked to where clk_rest takes over.
-/
import Derived.Test.YtddjnjhhkffjgaaGreatDoorCoCg
noncomputable section
namespace Go.Ax
open Go.RowKit Go.Proofs
set_option linter.unusedVariables false
set_option linter.unusedSimpArgs false
set_option maxRecDepth 100000
theorem clocksOn_any (v0 v1 : Value) (s : ByteArray) (b : Bool) (w : World) (hv0 : StrIn w v0) (hv1 : BoolIn w v1) : Calls Tryz.prog 5 #[v0, v1, .string s, .bool b] w fun x w' => x = .returned (.bool true) ∧ Below w.heap.size w w' := by
  obtain ⟨ss, na, hn, hna⟩ := hv0
  obtain ⟨bs, oa, ho, hoa⟩ := hv1
  go_enter Tryz.func5, Tryz.ntmps5
  refine wp_seq_k fun K0 h0 => ?_
  have H0 := Lib.hid h0; clear h0
  go_wp2_with fail
  refine H0.out _ _ ?_
  clear H0 K0
  refine wp_seq_k fun K1 h1 => ?_
  have H1 := Lib.hid h1; clear h1
  go_wp2_with fail
  refine (clocksOn_awake w).mono ?_
  rintro x w1 ⟨rfl, hb1⟩
  go_wp2_with fail
  refine H1.out _ _ ?_
  clear H1 K1
  refine wp_seq_k fun K2 h2 => ?_
  have H2 := Lib.hid h2; clear h2
  go_wp2_with fail
  refine H2.out _ _ ?_
  clear H2 K2
  obtain ⟨t', S', hr, ht8⟩ := clk_rest 1000 na oa ss bs s b (frL [(0, na), (1, oa), (2, .v (.string s)), (3, .v (.bool b)), (9, .nils)]) St0 hn ho rfl rfl rfl rfl rfl
  refine codeC_from (E := E1) e1_ok e1_intr e1_mix rfl (t := 8) hr ht8 (SR.whole w1) (frL_ok _ ?_) rfl rfl ?_
  · intro p hp
    simp only [List.mem_cons, List.not_mem_nil, or_false] at hp
    rcases hp with rfl | rfl | rfl | rfl | rfl
    · exact ⟨_, rfl, hna w1 hb1⟩
    · exact ⟨_, rfl, hoa w1 hb1⟩
    · exact ⟨_, rfl, .v _ rfl⟩
    · exact ⟨_, rfl, .v _ rfl⟩
    · exact ⟨_, rfl, .nils⟩
  intro act' w' hs hd ht hb2
  refine ⟨hd, .bool true, ?_, rfl, hb1.trans (hb2.mono hb1.size)⟩
  have h4 : act'.tmps.getD 8 undef = .bool true := by simp [Array.getD_eq_getD_getElem?, ht]
  simp [results, Tryz.f5, h4, go_sem, ht]
end Go.Ax
