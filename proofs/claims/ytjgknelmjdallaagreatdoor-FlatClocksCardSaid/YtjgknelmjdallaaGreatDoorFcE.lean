/-
  Steps of abstract states with their worlds: what they keep, and that they follow one another.
-/
import Derived.Test.YtjgknelmjdallaaGreatDoorFcB
noncomputable section
namespace Go.Ax
open Go.RowKit
set_option linter.unusedVariables false
set_option linter.unusedSimpArgs false

structure Ext (γ : Gh) (S : St) (w : World) (γ' : Gh) (S' : St) (w' : World) : Prop where
  ev : Ev γ w γ' w'
  next : S.next ≤ S'.next
  same : ∀ id, id < S.next → γ'.loc id = γ.loc id
  size : w.heap.size ≤ w'.heap.size
  liv : ∀ id c b s, S'.mem.get id = some c → γ'.loc id = some (b, s) → w.heap.size ≤ b ∨ ∃ id0 c0 s0, S.mem.get id0 = some c0 ∧ γ.loc id0 = some (b, s0)
  frame : ∀ b, b < w.heap.size → (∀ id c s, S.mem.get id = some c → γ.loc id ≠ some (b, s)) → w'.heap[b]? = w.heap[b]? ∧ ∀ o, γ'.im b o → γ.im b o
theorem Ext.refl (γ : Gh) (S : St) (w : World) : Ext γ S w γ S w := ⟨.refl _ _, Nat.le_refl _, fun _ _ => rfl, Nat.le_refl _, fun id c b s h l => .inr ⟨id, c, s, h, l⟩, fun _ _ _ => ⟨rfl, fun _ h => h⟩⟩
theorem Ext.trans {γ γ1 γ2 : Gh} {S S1 S2 : St} {w w1 w2 : World} (h : Ext γ S w γ1 S1 w1) (k : Ext γ1 S1 w1 γ2 S2 w2) : Ext γ S w γ2 S2 w2 := by
  refine ⟨h.ev.trans k.ev, Nat.le_trans h.next k.next, fun id hid => (k.same id (Nat.lt_of_lt_of_le hid h.next)).trans (h.same id hid), Nat.le_trans h.size k.size, fun id c b s e l => ?_, fun b hb hn => ?_⟩
  · rcases k.liv id c b s e l with h1 | ⟨i0, c0, s0, e0, l0⟩
    · exact .inl (Nat.le_trans h.size h1)
    · exact h.liv i0 c0 b s0 e0 l0
  · obtain ⟨f1, f2⟩ := h.frame b hb hn
    obtain ⟨g1, g2⟩ := k.frame b (Nat.lt_of_lt_of_le hb h.size) (fun id c s e l => by
      rcases h.liv id c b s e l with h1 | ⟨i0, c0, s0, e0, l0⟩
      · omega
      · exact hn i0 c0 s0 e0 l0)
    exact ⟨g1.trans f1, fun o ho => f2 o (g2 o ho)⟩
/-- Worlds that differ in nothing that is looked at. -/
theorem Ext.of_same {γ : Gh} {S : St} {w w' : World} (hh : w'.heap = w.heap) (ev : Ev γ w γ w') : Ext γ S w γ S w' :=
  ⟨ev, Nat.le_refl _, fun _ _ => rfl, by rw [hh]; exact Nat.le_refl _, fun id c b s h l => .inr ⟨id, c, s, h, l⟩, fun b _ _ => ⟨by rw [hh], fun _ h => h⟩⟩
theorem Ext.allocIm {γ : Gh} {S : St} {w : World} (arr : Array Value) (T : TypeId) (n : Nat) {fr : Nat × Nat} (ev : Ev γ w (γ.withIm w.heap.size 0 n) (w.alloc (.cells arr T fr))) : Ext γ S w (γ.withIm w.heap.size 0 n) S (w.alloc (.cells arr T fr)) :=
  ⟨ev, Nat.le_refl _, fun _ _ => rfl, by simp, fun id c b s h l => .inr ⟨id, c, s, h, l⟩, fun b hb _ => ⟨Below.heap_alloc w _ b hb, fun o ho => ho.resolve_right (fun ⟨e, _⟩ => by omega)⟩⟩
theorem Ext.alloc {γ : Gh} {S : St} {w : World} (o : Obj) : Ext γ S w γ S (w.alloc o) :=
  ⟨ev_alloc γ w o, Nat.le_refl _, fun _ _ => rfl, by simp, fun id c b s h l => .inr ⟨id, c, s, h, l⟩, fun b hb _ => ⟨Below.heap_alloc w _ b hb, fun _ h => h⟩⟩
/-- A name for a new block, or for one that had a name. -/
theorem Ext.name {γ : Gh} {S : St} {w : World} {b s : Nat} {c : Cell} (hf : γ.loc S.next = none) (hb : ∃ id0 c0 s0, S.mem.get id0 = some c0 ∧ γ.loc id0 = some (b, s0)) :
    Ext γ S w (γ.withLoc S.next b s) { next := S.next + 1, mem := S.mem.set S.next (some c) } w := by
  refine ⟨ev_loc hf, Nat.le_succ _, fun id hid => ?_, Nat.le_refl _, fun id c' b' s' e l => ?_, fun b' hb' hn => ⟨rfl, fun _ h => h⟩⟩
  · show (if id = S.next then some (b, s) else γ.loc id) = γ.loc id
    rw [if_neg (by omega)]
  · have e : (S.mem.set S.next (some c)).get id = some c' := e
    have l : (if id = S.next then some (b, s) else γ.loc id) = some (b', s') := l
    rw [T.get_set] at e
    split at e
    · rename_i hid
      rw [if_pos hid] at l
      injection l with l; injection l with l1 l2; subst l1
      exact .inr hb
    · rename_i hid
      rw [if_neg hid] at l
      exact .inr ⟨id, c', s', e, l⟩
theorem Ext.newName {γ γ1 : Gh} {S : St} {w w' : World} {s : Nat} {c : Cell} (h : Ext γ S w γ1 S w') (hf : γ1.loc S.next = none) (hm : S.mem.get S.next = none) (hg : γ1.loc = γ.loc) :
    Ext γ S w (γ1.withLoc S.next w.heap.size s) { next := S.next + 1, mem := S.mem.set S.next (some c) } w' := by
  refine ⟨h.ev.trans (ev_loc hf), Nat.le_succ _, fun id hid => ?_, h.size, fun id c' b' s' e l => ?_, fun b' hb' hn => ?_⟩
  · show (if id = S.next then some (w.heap.size, s) else γ1.loc id) = γ.loc id
    rw [if_neg (by omega), hg]
  · have e : (S.mem.set S.next (some c)).get id = some c' := e
    have l : (if id = S.next then some (w.heap.size, s) else γ1.loc id) = some (b', s') := l
    rw [T.get_set] at e
    split at e
    · rename_i hid
      rw [if_pos hid] at l
      injection l with l; injection l with l1 l2; subst l1
      exact .inl (Nat.le_refl _)
    · rename_i hid
      rw [if_neg hid] at l
      exact h.liv id c' b' s' e l
  · obtain ⟨f1, f2⟩ := h.frame b' hb' hn
    exact ⟨f1, f2⟩
theorem Ext.newBox {base : Nat} {w0 : World} {γ : Gh} {S : St} {w : World} (h : SR base w0 γ S w) (o : Obj) (c : Cell) : Ext γ S w (γ.withLoc S.next w.heap.size 0) { next := S.next + 1, mem := S.mem.set S.next (some c) } (w.alloc o) :=
  (Ext.alloc o).newName (h.fresh S.next (Nat.le_refl _)).1 (h.fresh S.next (Nat.le_refl _)).2 rfl
/-- A store into a block that has a name; nothing new. -/
theorem Ext.store {γ : Gh} {S S' : St} {w w' : World} {b : Nat} (ev : Ev γ w γ w') (hs : w'.heap.size = w.heap.size) (hk : ∀ k, k ≠ b → w'.heap[k]? = w.heap[k]?) (hn : S'.next = S.next)
    (hb : ∃ id0 c0 s0, S.mem.get id0 = some c0 ∧ γ.loc id0 = some (b, s0)) (hm : ∀ id, (∃ c, S'.mem.get id = some c) → ∃ c, S.mem.get id = some c) : Ext γ S w γ S' w' :=
  ⟨ev, by omega, fun _ _ => rfl, by omega, fun id c b' s h l => by
    obtain ⟨c0, h0⟩ := hm id ⟨c, h⟩
    exact .inr ⟨id, c0, s, h0, l⟩, fun b' hb' hnot => ⟨hk b' (fun e => by
      subst e
      obtain ⟨i0, c0, s0, e0, l0⟩ := hb
      exact hnot i0 c0 s0 e0 l0), fun _ h => h⟩⟩
end Go.Ax
