/-
  The contract of tree.copyExpr: a copy, in new memory: the parts outside the walk.
-/
import Derived.Test.YthhkjjdhecpmlaaDoorCp
namespace Go.Proofs.YthhkjjdhecpmlaaDoor
open Go.RowKit
set_option linter.unusedVariables false
set_option linter.unusedSimpArgs false
/-- All blocks but one stand. -/
def Exc (g : Nat) (w w' : World) : Prop := w.heap.size ≤ w'.heap.size ∧ ∀ b, b < w.heap.size → b ≠ g → w'.heap[b]? = w.heap[b]?
theorem Exc.refl (g : Nat) (w : World) : Exc g w w := ⟨Nat.le_refl _, fun _ _ _ => rfl⟩
theorem Exc.drew (g : Nat) (w : World) : Exc g w w.drew := ⟨Nat.le_refl _, fun _ _ _ => rfl⟩
theorem Exc.trans {g : Nat} {w w1 w2 : World} (h : Exc g w w1) (h' : Exc g w1 w2) : Exc g w w2 :=
  ⟨Nat.le_trans h.1 h'.1, fun b h1 h2 => (h'.2 b (Nat.lt_of_lt_of_le h1 h.1) h2).trans (h.2 b h1 h2)⟩
theorem Exc.below {g : Nat} {w w1 : World} (h : Below w.heap.size w w1) : Exc g w w1 := ⟨h.size, fun b h1 _ => h.block b h1⟩
theorem Exc.set {g o : Nat} {w w1 : World} {x : Value} (h : Exc g w w1) : Exc g w (w1.setCell ⟨g, o, none⟩ x) :=
  ⟨by simpa using h.1, fun b h1 h2 => (Below.heap_setCell _ _ _ _ h2).trans (h.2 b h1 h2)⟩
theorem Exc.cell {g b o : Nat} {W : World} {v : Value} (hb : b < W.heap.size) (hg : b ≠ g) (h : W.cell? ⟨b, o, none⟩ = some v) : ∀ w', Exc g W w' → w'.cell? ⟨b, o, none⟩ = some v :=
  fun _ h' => (World.cell?_of_block (a := ⟨b, o, none⟩) (h'.2 b hb hg)).trans h
/-- The six cells of a place of a row. -/
def Arr6 (cs : Array Value) (i : Nat) (c0 c1 c2 c3 c4 c5 : Value) : Prop :=
  cs[i]? = some c0 ∧ cs[i + 1]? = some c1 ∧ cs[i + 2]? = some c2 ∧ cs[i + 3]? = some c3 ∧ cs[i + 4]? = some c4 ∧ cs[i + 5]? = some c5
def put6 (cs : Array Value) (i : Nat) (c0 c1 c2 c3 c4 c5 : Value) : Array Value :=
  (((((cs.setIfInBounds i c0).setIfInBounds (i + 1) c1).setIfInBounds (i + 2) c2).setIfInBounds (i + 3) c3).setIfInBounds (i + 4) c4).setIfInBounds (i + 5) c5
theorem put6_size (cs : Array Value) (i : Nat) (c0 c1 c2 c3 c4 c5 : Value) : (put6 cs i c0 c1 c2 c3 c4 c5).size = cs.size := by simp [put6]
theorem put6_at {cs : Array Value} {i : Nat} (h : i + 6 ≤ cs.size) (c0 c1 c2 c3 c4 c5 : Value) : Arr6 (put6 cs i c0 c1 c2 c3 c4 c5) i c0 c1 c2 c3 c4 c5 := by
  refine ⟨?_, ?_, ?_, ?_, ?_, ?_⟩ <;> (unfold put6; simp [Array.getElem?_setIfInBounds]; try omega)
theorem put6_far {cs : Array Value} {i j : Nat} (hij : j < i ∨ i + 6 ≤ j) (c0 c1 c2 c3 c4 c5 : Value) : (put6 cs i c0 c1 c2 c3 c4 c5)[j]? = cs[j]? := by
  unfold put6
  simp only [Array.getElem?_setIfInBounds]
  rw [if_neg (by omega), if_neg (by omega), if_neg (by omega), if_neg (by omega), if_neg (by omega), if_neg (by omega)]
theorem Arr6.far {cs : Array Value} {i j : Nat} {d0 d1 d2 d3 d4 d5 : Value} (h : Arr6 cs (j * 6) d0 d1 d2 d3 d4 d5) (hij : j ≠ i) (c0 c1 c2 c3 c4 c5 : Value) : Arr6 (put6 cs (i * 6) c0 c1 c2 c3 c4 c5) (j * 6) d0 d1 d2 d3 d4 d5 := by
  obtain ⟨h0, h1, h2, h3, h4, h5⟩ := h
  exact ⟨(put6_far (by omega) ..).trans h0, (put6_far (by omega) ..).trans h1, (put6_far (by omega) ..).trans h2, (put6_far (by omega) ..).trans h3, (put6_far (by omega) ..).trans h4, (put6_far (by omega) ..).trans h5⟩
/-- Six stores. -/
def set6 (w : World) (g i : Nat) (c0 c1 c2 c3 c4 c5 : Value) : World :=
  (((((w.setCell ⟨g, i, none⟩ c0).setCell ⟨g, i + 1, none⟩ c1).setCell ⟨g, i + 2, none⟩ c2).setCell ⟨g, i + 3, none⟩ c3).setCell ⟨g, i + 4, none⟩ c4).setCell ⟨g, i + 5, none⟩ c5
theorem Blk.set6 {w : World} {g T i : Nat} {cs : Array Value} (h : Blk w g T cs) (c0 c1 c2 c3 c4 c5 : Value) : Blk (set6 w g i c0 c1 c2 c3 c4 c5) g T (put6 cs i c0 c1 c2 c3 c4 c5) :=
  (((((h.set _).set _).set _).set _).set _).set _
theorem Exc.set6 {g i : Nat} {w w1 : World} (h : Exc g w w1) (c0 c1 c2 c3 c4 c5 : Value) : Exc g w (set6 w1 g i c0 c1 c2 c3 c4 c5) := h.set.set.set.set.set.set
/-- What holds at the head of a round of copyExpr. -/
def CpSt (w : World) (B d : Nat) (k a n : Int) (nm : ByteArray) (off : Bool) (kids : List Ex) (g c j : Nat) (wr : World) : Prop :=
  Below w.heap.size w wr ∧ Blk wr w.heap.size 49 #[.int .i64 k, .int .i64 a, .int .i64 n, .string nm, .bool off, .slice (some ⟨g, 0, none⟩) kids.length c] ∧
    Blk wr (w.heap.size + 1) 49 #[.int .i64 0, .int .i64 0, .int .i64 0, .string ⟨#[]⟩, .bool false, .slice none 0 0] ∧ w.heap.size + 2 ≤ g ∧
    ∃ cur, Blk wr g 49 cur ∧ kids.length * 6 ≤ cur.size ∧ ∀ i (h : i < kids.length), ∃ c0 c1 c2 c3 c4 c5, Arr6 cur (i * 6) c0 c1 c2 c3 c4 c5 ∧
      (i < j → RepP wr (fun b => w.heap.size + 2 ≤ b ∧ b < wr.heap.size ∧ b ≠ g) d kids[i] (.agg #[c0, c1, c2, c3, c4, c5])) ∧ (j ≤ i → Rep w B d kids[i] (.agg #[c0, c1, c2, c3, c4, c5]))
theorem CpSt.step {w wr w1 w2 : World} {B d : Nat} {k a n : Int} {nm : ByteArray} {off : Bool} {kids : List Ex} {g c j : Nat} {c0 c1 c2 c3 c4 c5 : Value} (h : CpSt w B d k a n nm off kids g c j wr) (hj : j < kids.length)
    (h1 : Below wr.heap.size wr w1) (h2 : Below w1.heap.size w1 w2) (hr : RepP w2 (fun b => w1.heap.size ≤ b ∧ b < w2.heap.size) d kids[j] (.agg #[c0, c1, c2, c3, c4, c5])) :
    CpSt w B d k a n nm off kids g c (j + 1) (set6 w2 g (j * 6) c0 c1 c2 c3 c4 c5) := by
  obtain ⟨hb, hB0, hR, hg, cur, hc, hsz, hk⟩ := h
  have h12 : Below wr.heap.size wr w2 := h1.trans (h2.mono h1.size)
  have E : Exc g wr (set6 w2 g (j * 6) c0 c1 c2 c3 c4 c5) := (Exc.below h12).set6 _ _ _ _ _ _
  have E2 : Exc g w2 (set6 w2 g (j * 6) c0 c1 c2 c3 c4 c5) := (Exc.refl g w2).set6 _ _ _ _ _ _
  have hgl := hc.lt
  have hB0l := hB0.lt
  have hRl := hR.lt
  have s1 := h1.size
  have s2 := h2.size
  refine ⟨?_, hB0.same (E.2 _ hB0l (by omega)), hR.same (E.2 _ hRl (by omega)), hg, put6 cur (j * 6) c0 c1 c2 c3 c4 c5, (hc.below h12).set6 _ _ _ _ _ _, by rw [put6_size]; exact hsz, fun i hi => ?_⟩
  · have hgw : w.heap.size ≤ g := by omega
    exact ((((((hb.trans (h12.mono hb.size)).setCell hgw _).setCell hgw _).setCell hgw _).setCell hgw _).setCell hgw _).setCell hgw _
  · by_cases hij : i = j
    · subst hij
      exact ⟨c0, c1, c2, c3, c4, c5, put6_at (by omega) .., fun _ => hr.keep (fun b hb => ⟨by omega, Nat.lt_of_lt_of_le hb.2 E2.1, by omega⟩) (fun b hb => E2.2 b hb.2 (by omega)), fun h => by omega⟩
    · obtain ⟨d0, d1, d2, d3, d4, d5, h6, hl, hr⟩ := hk i hi
      exact ⟨d0, d1, d2, d3, d4, d5, h6.far hij .., fun h => (hl (by omega)).keep (fun b hb => ⟨hb.1, Nat.lt_of_lt_of_le hb.2.1 E.1, hb.2.2⟩) (fun b hb => E.2 b hb.2.1 hb.2.2), fun h => hr (by omega)⟩
theorem CpSt.finish {w wr : World} {B d : Nat} {k a n : Int} {nm : ByteArray} {off : Bool} {kids : List Ex} {g c : Nat} (h : CpSt w B d k a n nm off kids g c kids.length wr) (hl : kids.length ≤ 1000000) {x0 x1 x2 x3 x4 x5 : Value} :
    TreeOut w (d + 1) (.mk k a n nm off kids) (.returned (exVal k a n nm off (.slice (some ⟨g, 0, none⟩) kids.length c))) (set6 wr (w.heap.size + 1) 0 x0 x1 x2 x3 x4 x5) := by
  obtain ⟨hb, hB0, hR, hg, cur, hc, hsz, hk⟩ := h
  have E : Exc (w.heap.size + 1) wr (set6 wr (w.heap.size + 1) 0 x0 x1 x2 x3 x4 x5) := (Exc.refl _ wr).set6 _ _ _ _ _ _
  have hgw : w.heap.size ≤ w.heap.size + 1 := by omega
  refine ⟨k, a, n, nm, off, _, _, _, rfl, ?_, (((((hb.setCell hgw _).setCell hgw _).setCell hgw _).setCell hgw _).setCell hgw _).setCell hgw _⟩
  refine RepP.keep (w := wr) (P := fun b => w.heap.size + 2 ≤ b ∧ b < wr.heap.size) (fun b hb => ⟨by omega, Nat.lt_of_lt_of_le hb.2 E.1⟩) (fun b hb => E.2 b hb.2 (by omega)) ?_
  refine ⟨_, rfl, Or.inr ⟨g, 0, c, rfl, ⟨hg, hc.lt⟩, hl, fun i hi => ?_⟩⟩
  obtain ⟨c0, c1, c2, c3, c4, c5, h6, hr, _⟩ := hk i hi
  refine ⟨c0, c1, c2, c3, c4, c5, ?_, (hr hi).keep (fun b hb => ⟨hb.1, hb.2.1⟩) (fun _ _ => rfl)⟩
  obtain ⟨q0, q1, q2, q3, q4, q5⟩ := h6
  rw [Nat.zero_add]
  exact ⟨hc.cell q0, hc.cell q1, hc.cell q2, hc.cell q3, hc.cell q4, hc.cell q5⟩
end Go.Proofs.YthhkjjdhecpmlaaDoor
