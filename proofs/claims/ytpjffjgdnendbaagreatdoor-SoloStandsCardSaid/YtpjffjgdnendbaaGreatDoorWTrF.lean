/-
  A frame of which some places are known; memory that stays.
-/
import Derived.Test.YtpjffjgdnendbaaGreatDoorWUb
noncomputable section
namespace Go.Ax
open Go.RowKit Go.Proofs
set_option linter.unusedVariables false
set_option linter.unusedSimpArgs false
set_option maxRecDepth 100000
/-- A frame of which some places are known. -/
def frL (l : List (Nat × AV)) : T AV := l.foldr (fun p f => f.set p.1 (some p.2)) .leaf
theorem frL_ok {γ : Gh} {w : World} {tmps : Array Value} : ∀ l : List (Nat × AV), (∀ p ∈ l, ∃ v, tmps[p.1]? = some v ∧ VR γ w p.2 v) → FR γ w (frL l) tmps
  | [], _ => fun t a h => by
    have h : (T.leaf : T AV).get t = some a := h
    rw [T.get_leaf] at h; cases h
  | p :: l, hp => fun t a h => by
    have hq : ((frL l).set p.1 (some p.2)).get t = some a := h
    rw [T.get_set] at hq
    split at hq
    · rename_i e; subst e
      injection hq with hq2; subst hq2
      obtain ⟨v, h1, h2⟩ := hp p (List.mem_cons_self ..)
      obtain ⟨hl, he⟩ := Array.getElem?_eq_some_iff.1 h1
      exact ⟨hl, by simp only [Array.getD_eq_getD_getElem?, h1, Option.getD_some]; exact h2⟩
    · exact frL_ok l (fun q hqq => hp q (List.mem_cons_of_mem _ hqq)) t a hq
/-- All that lies in memory is known to stay. -/
def GhW (w : World) : Gh := { loc := fun _ => none, im := fun b o => b < w.heap.size ∧ ∃ v, w.cell? ⟨b, o, none⟩ = some v }
theorem SR.whole (w : World) : SR w.heap.size w (GhW w) St0 w :=
  ⟨.refl _ _, Nat.le_refl _, fun _ _ h => h.2, fun _ _ => ⟨rfl, rfl⟩, Nat.le_refl _, fun _ _ _ h => (by cases h), fun _ _ h => (by cases h), fun _ _ _ _ _ _ _ h => (by cases h)⟩
end Go.Ax
