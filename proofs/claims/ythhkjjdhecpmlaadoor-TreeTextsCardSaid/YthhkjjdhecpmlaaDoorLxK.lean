/-
  Package girandolelaw01's awake: what All says of two short texts.
-/
import Derived.Test.YthhkjjdhecpmlaaDoorLxJ
namespace Go.Proofs.YthhkjjdhecpmlaaDoor
open Go.RowKit
set_option linter.unusedVariables false
set_option linter.unusedSimpArgs false
theorem lex_one : lexR ⟨#[120, 49, 45, 62, 53]⟩ (skipN ⟨#[120, 49, 45, 62, 53]⟩ 0) [] = .inr [⟨1, 0, ⟨#[120, 49]⟩, 0⟩, ⟨4, 2, ⟨#[45, 62]⟩, 0⟩, ⟨2, 4, ⟨#[53]⟩, 5⟩, ⟨5, 5, ⟨#[]⟩, 0⟩] := by kernel_rfl
theorem lex_two : lexR ⟨#[48, 55]⟩ (skipN ⟨#[48, 55]⟩ 0) [] = .inl (0, 1) := by kernel_rfl
theorem all_one (w : World) (hr : Rng w) : Calls Tryd.prog 13 #[.string ⟨#[120, 49, 45, 62, 53]⟩] w fun e w' =>
    ∃ b cap, e = .returned (.tuple #[.slice (some ⟨b, 0, none⟩) 4 cap, .agg #[.int .i64 0, .int .i64 0]]) ∧ b < w'.heap.size ∧ w'.cell? ⟨b, 4, none⟩ = some (.int .i64 4) ∧ w'.cell? ⟨b, 11, none⟩ = some (.int .u64 5) ∧ Below w.heap.size w w' :=
  (all_any _ w (by decide) hr).mono fun e w' h => by
    obtain ⟨hb, h⟩ := h
    rw [lex_one] at h
    obtain ⟨v, he, ho⟩ := h
    rcases ho.2 with ⟨_, h0⟩ | ⟨g, cap, cur, hv, hbg, hg, hrest⟩
    · cases h0
    · subst hv
      refine ⟨g, cap, he, (Array.getElem?_eq_some_iff.1 hg).1, ?_, ?_, hb⟩
      · exact ho.cellAt 4 (by decide)
      · exact ho.cellAt 11 (by decide)
theorem all_two (w : World) (hr : Rng w) : Calls Tryd.prog 13 #[.string ⟨#[48, 55]⟩] w fun e w' =>
    e = .returned (.tuple #[.slice none 0 0, .agg #[.int .i64 0, .int .i64 1]]) ∧ Below w.heap.size w w' :=
  (all_any _ w (by decide) hr).mono fun e w' h => by
    obtain ⟨hb, h⟩ := h
    rw [lex_two] at h
    exact ⟨h, hb⟩
set_option maxHeartbeats 1000000 in
set_option maxRecDepth 20000 in
theorem awakeLex (w : World) (hr : Rng w) : Calls Tryd.prog 12 #[] w fun e w' => e = .returned (.bool true) ∧ Below w.heap.size w w' := by
  have HR := Lib.hid hr; clear hr
  go_enter Tryd.func12, Tryd.ntmps12
  go_wp2_with fail
  refine (all_one _ HR.out).mono ?_
  rintro x w1 ⟨b, cap, rfl, hbz, hk, hn, hb1⟩
  have HR1 := Lib.hid (HR.out.below hb1)
  go_wp2_with fail
  refine (all_two _ (HR1.out.below ((Below.refl _ _).alloc (Nat.le_refl _) _))).mono ?_
  rintro x w2 ⟨rfl, hb2⟩
  simp only [World.size_alloc] at hb2
  have e0 : w2.cell? ⟨w1.heap.size, 0, none⟩ = some (.int .i64 0) := by rw [hb2.cell (p := ⟨w1.heap.size, 0, none⟩) (by simp)]; simp
  have e1 : w2.cell? ⟨w1.heap.size, 1, none⟩ = some (.int .i64 0) := by rw [hb2.cell (p := ⟨w1.heap.size, 1, none⟩) (by simp)]; simp
  have k4 : w2.cell? ⟨b, 4, none⟩ = some (.int .i64 4) := by rw [hb2.cell (p := ⟨b, 4, none⟩) (by simp; omega)]; exact cell_after hbz hk
  have k11 : w2.cell? ⟨b, 11, none⟩ = some (.int .u64 5) := by rw [hb2.cell (p := ⟨b, 11, none⟩) (by simp; omega)]; exact cell_after hbz hn
  have z2 : w1.heap.size < w2.heap.size := by have := hb2.size; simp at this; omega
  have HB := Lib.hid (hb1.trans (((Below.refl w1.heap.size w1).alloc (Nat.le_refl _) _).trans (hb2.mono (by omega)) |>.mono hb1.size))
  clear hk hn hb1 hb2
  have zb : b < w2.heap.size := by omega
  go_wp2_with fail
  go_ret
  refine ⟨by simp, HB.out.alloc ?_ _⟩
  have := HB.out.size
  exact this
end Go.Proofs.YthhkjjdhecpmlaaDoor
