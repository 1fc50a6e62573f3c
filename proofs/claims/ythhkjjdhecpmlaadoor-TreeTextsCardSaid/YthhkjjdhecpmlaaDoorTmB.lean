/-
  A block of a call's own, known whole: its cells, that it may be written, what it is behind a store, a call, an append.
-/
import Derived.Test.YthhkjjdhecpmlaaDoorTm
import Derived.OneCell
namespace Go.Proofs.YthhkjjdhecpmlaaDoor
open Go.RowKit
set_option linter.unusedVariables false
set_option linter.unusedSimpArgs false

/-- A block is known whole, and none of it is frozen. -/
def Blk (w : World) (b T : Nat) (cs : Array Value) : Prop := w.heap[b]? = some (.cells cs T (0, 0))
theorem Blk.lt {w : World} {b T : Nat} {cs : Array Value} (h : Blk w b T cs) : b < w.heap.size := lt_of_block h
theorem Blk.free {w : World} {b T : Nat} {cs : Array Value} (h : Blk w b T cs) (o : Nat) : w.frozen? ⟨b, o, none⟩ = false := by
  unfold Blk at h
  simp [World.frozen?, h]
theorem Blk.cell {w : World} {b T : Nat} {cs : Array Value} (h : Blk w b T cs) {o : Nat} {v : Value} (hv : cs[o]? = some v) : w.cell? ⟨b, o, none⟩ = some v := by
  unfold Blk at h
  simp [World.cell?, h, hv]
theorem Blk.new (w : World) (T : Nat) (cs : Array Value) : Blk (w.alloc (.cells cs T)) w.heap.size T cs := heap_alloc_new w _
theorem Blk.same {w w' : World} {b T : Nat} {cs : Array Value} (h : Blk w b T cs) (hs : w'.heap[b]? = w.heap[b]?) : Blk w' b T cs := hs.trans h
theorem Blk.below {w w' : World} {b T : Nat} {cs : Array Value} (h : Blk w b T cs) (hb : Below w.heap.size w w') : Blk w' b T cs := h.same (hb.block b h.lt)
theorem Blk.alloc {w : World} {b T : Nat} {cs : Array Value} (h : Blk w b T cs) (o : Obj) : Blk (w.alloc o) b T cs := h.same (heap_alloc_old w _ h.lt)
theorem Blk.other {w : World} {b b' o T : Nat} {cs : Array Value} {x : Value} (h : Blk w b T cs) (hne : b ≠ b') : Blk (w.setCell ⟨b', o, none⟩ x) b T cs :=
  h.same (Below.heap_setCell _ _ _ _ hne)
theorem Blk.set {w : World} {b o T : Nat} {cs : Array Value} (h : Blk w b T cs) (x : Value) : Blk (w.setCell ⟨b, o, none⟩ x) b T (cs.setIfInBounds o x) := by
  have hlt := h.lt
  have h' : w.heap[b] = .cells cs T (0, 0) := by have := h; unfold Blk at this; simpa [Array.getElem?_eq_getElem hlt] using this
  show (w.heap.modify b _)[b]? = _
  rw [Array.getElem?_eq_getElem (by simpa using hlt), Array.getElem_modify_self, h']
  rfl
theorem Blk.grown {w w' : World} {b T : Nat} {cs : Array Value} {row : Option Nat} (h : Blk w b T cs) (hg : w.grownBy w' row) (hne : row ≠ some b) : Blk w' b T cs :=
  h.same (hg.block b h.lt (fun e => hne e.symm))
/-- The cells of a block of six. -/
theorem Blk.six {w : World} {b T : Nat} {c0 c1 c2 c3 c4 c5 : Value} (h : Blk w b T #[c0, c1, c2, c3, c4, c5]) : w.cell? ⟨b, 0, none⟩ = some c0 ∧ w.cell? ⟨b, 1, none⟩ = some c1 ∧ w.cell? ⟨b, 2, none⟩ = some c2 ∧ w.cell? ⟨b, 3, none⟩ = some c3 ∧ w.cell? ⟨b, 4, none⟩ = some c4 ∧ w.cell? ⟨b, 5, none⟩ = some c5 :=
  ⟨h.cell rfl, h.cell rfl, h.cell rfl, h.cell rfl, h.cell rfl, h.cell rfl⟩
theorem TreeRow.own_ge {w : World} {base T d : Nat} {v : Value} {es : List Ex} (h : TreeRow w base T d v es) {b : Nat} (hb : b < base) : v.ownBlock ≠ some b := fun e => by
  obtain ⟨xs, ho, _⟩ := h
  have := ho.lt b e
  omega
theorem TreeRow.shape {w : World} {base T d : Nat} {v : Value} {es : List Ex} (h : TreeRow w base T d v es) : ∃ sp sl sc, v = .slice sp sl sc := by
  obtain ⟨xs, ho, _⟩ := h
  rcases ho.2 with ⟨hn, _⟩ | ⟨g, cap, cur, hv, _⟩
  · exact ⟨_, _, _, hn⟩
  · exact ⟨_, _, _, hv⟩
/-- A tree that a call has made. -/
def TreeOut (w : World) (d : Nat) (e : Ex) (x : Ending) (w' : World) : Prop :=
  ∃ k a n nm off sp sl sc, x = .returned (exVal k a n nm off (.slice sp sl sc)) ∧ RepP w' (fun b => w.heap.size ≤ b ∧ b < w'.heap.size) d e (exVal k a n nm off (.slice sp sl sc)) ∧ Below w.heap.size w w'
end Go.Proofs.YthhkjjdhecpmlaaDoor
