/-
  Package lex: the words that are kept, the signs; is a text one of them.
-/
import Derived.Test.YthhkjjdhecpmlaaDoorLxC
namespace Go.Proofs.YthhkjjdhecpmlaaDoor
open Go.RowKit
set_option linter.unusedVariables false
set_option linter.unusedSimpArgs false

def wordL : List ByteArray := [⟨#[110, 111, 100, 101]⟩, ⟨#[114, 101, 116, 117, 114, 110, 115]⟩, ⟨#[118, 97, 114]⟩, ⟨#[108, 101, 116]⟩, ⟨#[116, 101, 108]⟩, ⟨#[105, 110, 116]⟩, ⟨#[98, 111, 111, 108]⟩, ⟨#[102, 117, 116, 117, 114, 101]⟩, ⟨#[119, 104, 101, 110]⟩, ⟨#[110, 111, 116]⟩, ⟨#[97, 110, 100]⟩, ⟨#[111, 114]⟩, ⟨#[120, 111, 114]⟩, ⟨#[105, 102]⟩, ⟨#[116, 104, 101, 110]⟩, ⟨#[101, 108, 115, 101]⟩, ⟨#[112, 114, 101]⟩, ⟨#[102, 98, 121]⟩, ⟨#[109, 101, 114, 103, 101]⟩, ⟨#[97, 115, 121, 110, 99]⟩, ⟨#[97, 119, 97, 105, 116]⟩, ⟨#[97, 102, 116, 101, 114]⟩, ⟨#[116, 114, 117, 101]⟩, ⟨#[102, 97, 108, 115, 101]⟩, ⟨#[109, 111, 100]⟩]
def signL : List ByteArray := [⟨#[60, 62]⟩, ⟨#[60, 61]⟩, ⟨#[62, 61]⟩, ⟨#[45, 62]⟩, ⟨#[40]⟩, ⟨#[41]⟩, ⟨#[44]⟩, ⟨#[59]⟩, ⟨#[58]⟩, ⟨#[61]⟩, ⟨#[60]⟩, ⟨#[62]⟩, ⟨#[43]⟩, ⟨#[45]⟩, ⟨#[42]⟩, ⟨#[47]⟩]

/-- A row of texts in a block. -/
def Texts (w : World) (b : Nat) (l : List ByteArray) : Prop := ∀ j, j < l.length → w.cell? ⟨b, j, none⟩ = some (.string (l.getD j ByteArray.empty))
theorem Texts.below {w w' : World} {b B : Nat} {l : List ByteArray} (h : Texts w b l) (hb : Below B w w') (hB : b < B) : Texts w' b l := fun j hj =>
  (hb.cell (p := ⟨b, j, none⟩) hB).trans (h j hj)
theorem texts_alloc (w : World) (l : List ByteArray) (T : Nat) : Texts (w.alloc (.cells (l.map Value.string).toArray T)) w.heap.size l := by
  intro j hj
  simp [List.getD, hj]

set_option maxHeartbeats 400000 in
set_option maxRecDepth 20000 in
theorem words_any (w : World) :
    Calls Tryd.prog 15 #[] w fun e w' => e = .returned (.slice (some ⟨w.heap.size, 0, none⟩) 25 25) ∧ Texts w' w.heap.size wordL ∧ Below w.heap.size w w' ∧ w.heap.size < w'.heap.size := by
  go_enter Tryd.func15, Tryd.ntmps15
  go_wp2
  go_ret
  exact ⟨rfl, texts_alloc w wordL _, (Below.refl _ _).alloc (Nat.le_refl _) _, by simp⟩
set_option maxHeartbeats 400000 in
set_option maxRecDepth 20000 in
theorem signs_any (w : World) :
    Calls Tryd.prog 16 #[] w fun e w' => e = .returned (.slice (some ⟨w.heap.size, 0, none⟩) 16 16) ∧ Texts w' w.heap.size signL ∧ Below w.heap.size w w' ∧ w.heap.size < w'.heap.size := by
  go_enter Tryd.func16, Tryd.ntmps16
  go_wp2
  go_ret
  exact ⟨rfl, texts_alloc w signL _, (Below.refl _ _).alloc (Nat.le_refl _) _, by simp⟩

/-- Is a text one of these? -/
def isOne (l : List ByteArray) (s : ByteArray) : Bool := l.any fun x => s.toList == x.toList
theorem isOne_step {l : List ByteArray} {s : ByteArray} {j : Nat} (hj : j < l.length) (h : (s.toList == (l.getD j ByteArray.empty).toList) = false) : isOne (l.drop j) s = isOne (l.drop (j + 1)) s := by
  unfold isOne
  rw [List.drop_eq_getElem_cons hj, List.any_cons]
  rw [List.getD_eq_getElem?_getD, List.getElem?_eq_getElem hj] at h
  rw [show (s.toList == l[j].toList) = false from h, Bool.false_or]
theorem isOne_hit {l : List ByteArray} {s : ByteArray} {j : Nat} (hj : j < l.length) (h : (s.toList == (l.getD j ByteArray.empty).toList) = true) : isOne (l.drop j) s = true := by
  unfold isOne
  rw [List.drop_eq_getElem_cons hj, List.any_cons]
  rw [List.getD_eq_getElem?_getD, List.getElem?_eq_getElem hj] at h
  rw [show (s.toList == l[j].toList) = true from h, Bool.true_or]
theorem isOne_end {l : List ByteArray} {s : ByteArray} {j : Nat} (hj : l.length ≤ j) : isOne (l.drop j) s = false := by
  unfold isOne
  rw [List.drop_eq_nil_of_le hj]; rfl

/-- A place, or none. -/
def Found (l : List ByteArray) (s : ByteArray) (w : World) (e : Ending) (w' : World) : Prop := ∃ r : Int, -1 ≤ r ∧ r ≤ 1000 ∧ e = .returned (.int .i64 r) ∧ decide (0 ≤ r) = isOne l s ∧ w = w'

set_option maxHeartbeats 800000 in
set_option maxRecDepth 20000 in
theorem index_any (l : List ByteArray) (b cap : Nat) (s : ByteArray) (w : World) (hl : l.length ≤ 1000) (hc : Texts w b l) :
    Calls Tryd.prog 105 #[.slice (some ⟨b, 0, none⟩) l.length cap, .string s] w (Found l s w) := by
  have HC := Lib.hid hc; clear hc
  go_enter Tryd.func105, Tryd.ntmps105
  go_wp2_with fail
  go_loop [8] (fun t => ∃ j : Nat, j ≤ l.length ∧ t = .int .i64 j ∧ Hid (isOne (l.drop j) s = isOne l s)) (fun t => l.length - (intOf t).toNat)
  case atStart => exact ⟨0, Nat.zero_le _, rfl, Lib.hid rfl⟩
  case round =>
    obtain ⟨j, hj, rfl, HJ⟩ := hrel
    by_cases hlt : j < l.length
    · have hcell := HC.out j hlt
      cases hq : (s.toList == (l.getD j ByteArray.empty).toList)
      · have H := Lib.hid ((isOne_step hlt hq).symm.trans HJ.out)
        generalize l.getD j ByteArray.empty = x at *
        go_wp2_with fail
        go_round
        case rel => exact ⟨j + 1, by omega, by go_num, H⟩
        case measure => simp [intOf]; omega
      · have H := Lib.hid ((isOne_hit hlt hq).symm.trans HJ.out)
        generalize l.getD j ByteArray.empty = x at *
        go_wp2_with fail
        go_ret
        exact ⟨j, by omega, by omega, rfl, by rw [← H.out]; simp, rfl⟩
    · have H := Lib.hid ((isOne_end (l := l) (s := s) (j := j) (by omega)).symm.trans HJ.out)
      go_wp2_with fail
      go_ret
      exact ⟨-1, by omega, by omega, rfl, by rw [← H.out]; rfl, rfl⟩
set_option maxHeartbeats 400000 in
set_option maxRecDepth 20000 in
theorem contains_any (l : List ByteArray) (b cap : Nat) (s : ByteArray) (w : World) (hl : l.length ≤ 1000) (hc : Texts w b l) :
    Calls Tryd.prog 97 #[.slice (some ⟨b, 0, none⟩) l.length cap, .string s] w fun e w' => e = .returned (.bool (isOne l s)) ∧ w = w' := by
  have HC := Lib.hid hc; clear hc
  go_enter Tryd.func97, Tryd.ntmps97
  go_wp2_with fail
  refine (index_any l b cap s _ hl HC.out).mono ?_
  rintro e w' ⟨r, h1, h2, rfl, h3, rfl⟩
  have H := Lib.hid h3; clear h3
  go_wp2_with fail
  go_ret
  rw [← H.out]; exact ⟨rfl, rfl⟩
end Go.Proofs.YthhkjjdhecpmlaaDoor
