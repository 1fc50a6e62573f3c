/-
  Package girandoleref01: Words, Signs.
-/
import Derived.Test.YthhkjjdhecpmlaaDoorLxM
namespace Go.Proofs.YthhkjjdhecpmlaaDoor
open Go.RowKit
def wordS : ByteArray := ⟨#[110, 111, 100, 101, 32, 114, 101, 116, 117, 114, 110, 115, 32, 118, 97, 114, 32, 108, 101, 116, 32, 116, 101, 108, 32, 105, 110, 116, 32, 98, 111, 111, 108, 32, 102, 117, 116, 117, 114, 101, 32, 119, 104, 101, 110, 32, 110, 111, 116, 32, 97, 110, 100, 32, 111, 114, 32, 120, 111, 114, 32, 105, 102, 32, 116, 104, 101, 110, 32, 101, 108, 115, 101, 32, 112, 114, 101, 32, 102, 98, 121, 32, 109, 101, 114, 103, 101, 32, 97, 115, 121, 110, 99, 32, 97, 119, 97, 105, 116, 32, 97, 102, 116, 101, 114, 32, 116, 114, 117, 101, 32, 102, 97, 108, 115, 101, 32, 109, 111, 100]⟩
def signS : ByteArray := ⟨#[60, 62, 32, 60, 61, 32, 62, 61, 32, 45, 62, 32, 40, 32, 41, 32, 44, 32, 59, 32, 58, 32, 61, 32, 60, 32, 62, 32, 43, 32, 45, 32, 42, 32, 47]⟩
theorem split_words : splR wordS 0 [] ⟨#[]⟩ = wordL := by kernel_rfl
theorem split_signs : splR signS 0 [] ⟨#[]⟩ = signL := by kernel_rfl
/-- A row of these texts, new. -/
def Row (l : List ByteArray) (w : World) (e : Ending) (w' : World) : Prop :=
  ∃ b cap, e = .returned (.slice (some ⟨b, 0, none⟩) l.length cap) ∧ Texts w' b l ∧ Below w.heap.size w w' ∧ w.heap.size ≤ b ∧ b < w'.heap.size
theorem row_of {l : List ByteArray} (hl : l ≠ []) {w w' : World} {v : Value} (h : w'.ownsRow w.heap.size 9 1 v l.length (l.map Value.string)) (hb : Below w.heap.size w w') : Row l w (.returned v) w' := by
  rcases h.2 with ⟨_, h0⟩ | ⟨g, cap, cur, hv, hbg, hg, hrest⟩
  · exact absurd (List.length_eq_zero_iff.1 h0) hl
  · subst hv
    refine ⟨g, cap, rfl, fun j hj => ?_, hb, hbg, (Array.getElem?_eq_some_iff.1 hg).1⟩
    rw [h.cellAt j (by omega)]
    simp [List.getD, hj]
set_option maxHeartbeats 400000 in
set_option maxRecDepth 20000 in
theorem refWords_any (w : World) : Calls Tryd.prog 17 #[] w (Row wordL w) := by
  go_enter Tryd.func17, Tryd.ntmps17
  go_wp2_with fail
  refine (split_any wordS _ (by decide)).mono ?_
  rintro x w1 ⟨hb1, v, rfl, ho⟩
  rw [split_words] at ho
  have H := Lib.hid (row_of (by decide) ho hb1); clear ho hb1
  go_wp2_with fail
  go_ret
  exact H.out
set_option maxHeartbeats 400000 in
set_option maxRecDepth 20000 in
theorem refSigns_any (w : World) : Calls Tryd.prog 18 #[] w (Row signL w) := by
  go_enter Tryd.func18, Tryd.ntmps18
  go_wp2_with fail
  refine (split_any signS _ (by decide)).mono ?_
  rintro x w1 ⟨hb1, v, rfl, ho⟩
  rw [split_signs] at ho
  have H := Lib.hid (row_of (by decide) ho hb1); clear ho hb1
  go_wp2_with fail
  go_ret
  exact H.out

end Go.Proofs.YthhkjjdhecpmlaaDoor
