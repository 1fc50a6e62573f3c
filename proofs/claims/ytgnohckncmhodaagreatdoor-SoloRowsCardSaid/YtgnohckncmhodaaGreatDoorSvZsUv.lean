/-
  SoloRows: true, whatever comes in.
-/
import Derived.Test.YtgnohckncmhodaaGreatDoorSvZsUs
import Derived.Laws.Slices
set_option linter.unusedVariables false
set_option linter.unusedSimpArgs false
set_option maxHeartbeats 16000000
noncomputable section
namespace Go.Ax
open Go.RowKit Go.Proofs
set_option linter.unusedVariables false
set_option linter.unusedSimpArgs false
set_option maxRecDepth 100000
theorem soloRows_nil (m : Int) (w : World) : Calls Tryz.prog 7 #[.slice none 0 0, .int .i64 m] w fun x w' => x = .returned (.bool true) ∧ Below w.heap.size w w' := by
  go_enter Tryz.func7, Tryz.ntmps7
  refine wp_seq_k fun K0 h0 => ?_
  have H0 := Lib.hid h0; clear h0
  go_wp2_with fail
  refine H0.out _ _ ?_
  clear H0 K0
  refine wp_seq_k fun K1 h1 => ?_
  have H1 := Lib.hid h1; clear h1
  go_wp2_with fail
  refine (solo_awake w).mono ?_
  rintro x w1 ⟨rfl, hb1⟩
  go_wp2_with fail
  refine H1.out _ _ ?_
  clear H1 K1
  refine wp_seq_k fun K2 h2 => ?_
  have H2 := Lib.hid h2; clear h2
  go_wp2_with fail
  refine H2.out _ _ ?_
  clear H2 K2
  refine wp_seq_k fun K3 h3 => ?_
  have H3 := Lib.hid h3; clear h3
  obtain ⟨k, hk, hz⟩ := and_mod m 255 10 (by decide) (by decide)
  have hz2 : (bits BinOp.and IntKind.i64 m 255).tmod 10 = (k : Int) := hz
  go_wp2_with fail
  refine H3.out _ _ ?_
  clear H3 K3
  refine sr_code .nils [] (.inl ⟨rfl, rfl⟩) (by decide) k hk w1 (SR.whole w1) (frL_ok _ ?_) rfl rfl ?_
  · intro p hp
    simp only [List.mem_cons, List.not_mem_nil, or_false] at hp
    rcases hp with rfl | rfl
    · exact ⟨_, rfl, .nils⟩
    · exact ⟨.int .i64 k, by first | rfl | (simp [hz2]), .v _ rfl⟩
  intro act' w' hs hd ht hb2
  refine ⟨hd, .bool true, ?_, rfl, hb1.trans (hb2.mono hb1.size)⟩
  have h4 : act'.tmps.getD 4 undef = .bool true := by simp [Array.getD_eq_getD_getElem?, ht]
  simp [results, Tryz.f7, h4, go_sem, ht]
theorem soloRows_few (b o len cap : Nat) (V : Nat → Int) (m : Int) (w : World) (hl : len ≤ cap) (hc : cap ≤ 9223372036854775807) (h5 : len ≤ 5) (hv : ∀ w1, Below w.heap.size w w1 → ∀ n, n ≤ len → VR (GhW w1) w1 (rowI 0 0 ((List.range n).map V)) (.slice (some ⟨b, o, none⟩) n cap)) : Calls Tryz.prog 7 #[.slice (some ⟨b, o, none⟩) len cap, .int .i64 m] w fun x w' => x = .returned (.bool true) ∧ Below w.heap.size w w' := by
  go_enter Tryz.func7, Tryz.ntmps7
  refine wp_seq_k fun K0 h0 => ?_
  have H0 := Lib.hid h0; clear h0
  go_wp2_with fail
  refine H0.out _ _ ?_
  clear H0 K0
  refine wp_seq_k fun K1 h1 => ?_
  have H1 := Lib.hid h1; clear h1
  go_wp2_with fail
  refine (solo_awake w).mono ?_
  rintro x w1 ⟨rfl, hb1⟩
  go_wp2_with fail
  refine H1.out _ _ ?_
  clear H1 K1
  refine wp_seq_k fun K2 h2 => ?_
  have H2 := Lib.hid h2; clear h2
  have hmn : ¬ ((5 : Int) < (len : Int)) := by omega
  go_wp2_with fail
  refine H2.out _ _ ?_
  clear H2 K2
  refine wp_seq_k fun K3 h3 => ?_
  have H3 := Lib.hid h3; clear h3
  obtain ⟨k, hk, hz⟩ := and_mod m 255 10 (by decide) (by decide)
  have hz2 : (bits BinOp.and IntKind.i64 m 255).tmod 10 = (k : Int) := hz
  go_wp2_with fail
  refine H3.out _ _ ?_
  clear H3 K3
  have hrow := hv w1 hb1 len (by omega)
  refine sr_code _ ((List.range len).map V) (.inr rfl) (by simp; try omega) k hk w1 (SR.whole w1) (frL_ok _ ?_) rfl rfl ?_
  · intro p hp
    simp only [List.mem_cons, List.not_mem_nil, or_false] at hp
    rcases hp with rfl | rfl
    · have e5 : (min (len : Int) 5).toNat = len := by omega
      exact ⟨_, rfl, by simpa [e5] using hrow⟩
    · exact ⟨.int .i64 k, by first | rfl | (simp [hz2]), .v _ rfl⟩
  intro act' w' hs hd ht hb2
  refine ⟨hd, .bool true, ?_, rfl, hb1.trans (hb2.mono hb1.size)⟩
  have h4 : act'.tmps.getD 4 undef = .bool true := by simp [Array.getD_eq_getD_getElem?, ht]
  simp [results, Tryz.f7, h4, go_sem, ht]
theorem soloRows_more (b o len cap : Nat) (V : Nat → Int) (m : Int) (w : World) (hl : len ≤ cap) (hc : cap ≤ 9223372036854775807) (h5 : ¬ len ≤ 5) (hv : ∀ w1, Below w.heap.size w w1 → ∀ n, n ≤ len → VR (GhW w1) w1 (rowI 0 0 ((List.range n).map V)) (.slice (some ⟨b, o, none⟩) n cap)) : Calls Tryz.prog 7 #[.slice (some ⟨b, o, none⟩) len cap, .int .i64 m] w fun x w' => x = .returned (.bool true) ∧ Below w.heap.size w w' := by
  go_enter Tryz.func7, Tryz.ntmps7
  refine wp_seq_k fun K0 h0 => ?_
  have H0 := Lib.hid h0; clear h0
  go_wp2_with fail
  refine H0.out _ _ ?_
  clear H0 K0
  refine wp_seq_k fun K1 h1 => ?_
  have H1 := Lib.hid h1; clear h1
  go_wp2_with fail
  refine (solo_awake w).mono ?_
  rintro x w1 ⟨rfl, hb1⟩
  go_wp2_with fail
  refine H1.out _ _ ?_
  clear H1 K1
  refine wp_seq_k fun K2 h2 => ?_
  have H2 := Lib.hid h2; clear h2
  have hmn : ((5 : Int) < (len : Int)) := by omega
  go_wp2_with fail
  refine H2.out _ _ ?_
  clear H2 K2
  refine wp_seq_k fun K3 h3 => ?_
  have H3 := Lib.hid h3; clear h3
  obtain ⟨k, hk, hz⟩ := and_mod m 255 10 (by decide) (by decide)
  have hz2 : (bits BinOp.and IntKind.i64 m 255).tmod 10 = (k : Int) := hz
  go_wp2_with fail
  refine H3.out _ _ ?_
  clear H3 K3
  have hrow := hv w1 hb1 5 (by omega)
  refine sr_code _ ((List.range 5).map V) (.inr rfl) (by simp; try omega) k hk w1 (SR.whole w1) (frL_ok _ ?_) rfl rfl ?_
  · intro p hp
    simp only [List.mem_cons, List.not_mem_nil, or_false] at hp
    rcases hp with rfl | rfl
    · have e5 : (min (len : Int) 5).toNat = 5 := by omega
      exact ⟨_, rfl, by simpa [e5] using hrow⟩
    · exact ⟨.int .i64 k, by first | rfl | (simp [hz2]), .v _ rfl⟩
  intro act' w' hs hd ht hb2
  refine ⟨hd, .bool true, ?_, rfl, hb1.trans (hb2.mono hb1.size)⟩
  have h4 : act'.tmps.getD 4 undef = .bool true := by simp [Array.getD_eq_getD_getElem?, ht]
  simp [results, Tryz.f7, h4, go_sem, ht]
theorem soloRows_any (v0 : Value) (m : Int) (w : World) (hv0 : IntIn w v0) : Calls Tryz.prog 7 #[v0, .int .i64 m] w fun x w' => x = .returned (.bool true) ∧ Below w.heap.size w w' := by
  rcases hv0 with rfl | ⟨b, o, len, cap, V, rfl, hl, hc, hv⟩
  · exact soloRows_nil m w
  · by_cases h5 : len ≤ 5
    · exact soloRows_few b o len cap V m w hl hc h5 hv
    · exact soloRows_more b o len cap V m w hl hc h5 hv
end Go.Ax
