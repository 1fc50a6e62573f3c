/-
  ClocksOn: awake; code from a run by callC; what comes in.
-/
import Derived.Test.YtddjnjhhkffjgaaGreatDoorCoCe
import Derived.Test.YtddjnjhhkffjgaaGreatDoorCoTrW
import Derived.Deep.Strs
import Derived.Deep.Grids
noncomputable section
namespace Go.Ax
open Go.RowKit Go.Proofs
set_option linter.unusedVariables false
set_option linter.unusedSimpArgs false
set_option maxRecDepth 100000
theorem clocksOn_awake (w : World) : Calls Tryz.prog 17 #[] w fun e w' => e = .returned (.bool true) ∧ Below w.heap.size w w' :=
  callsX_true (E := E1) e1_ok e1_intr e1_mix rfl (m := 2000) (k := 17) (args := []) (by kernel_rfl) (by kernel_rfl) (vs := []) ⟨rfl, fun k hk => by cases hk⟩
section
variable {E : Env}
/-- A run by callC that is known to return true. -/
theorem codeC_from (hE : E.Ok) (hI : IntrOk E) (hmix : E.P.follows .mixedOrders = true) (hG : E.G = fun _ => none) {m j n t : Nat} {c : Code} {f f' : T AV} {S' : St} (h : runC E (drawnNew E) (callC E m) j n c ⟨f, []⟩ St0 = .out .ret ⟨f', []⟩ S') (h2 : f'.get t = some (.v (.bool true))) {Q : Exit → Act → World → Prop} {act : Act} {γ : Gh} {base : Nat} {w0 w : World} (hS : SR base w0 γ St0 w) (hf : FR γ w f act.tmps) (hn : act.tmps.size = n) (hd : act.defers = [])
    (hQ : ∀ act' w', act'.tmps.size = n → act'.defers = [] → act'.tmps[t]? = some (.bool true) → Below base w0 w' → Q .ret act' w') : c.wp E.P Q act w := by
  refine (runC_sound hE (drawnNew_ok hE hmix) (callC_ok hE hI hmix m) j).code base w0 Q n c γ St0 w ⟨f, []⟩ act hS ⟨hf, hn, by rw [hd]; trivial⟩ (by rw [hG]; exact GR.none) ?_
  rw [h]
  intro γ' act' w' h1 h3 h4
  show Q .ret act' w'
  obtain ⟨k1, k2⟩ := h4.tmps t _ h2
  have hdd := h4.dfr
  have hd' : act'.defers = [] := by
    cases hx : act'.defers with
    | nil => rfl
    | cons a r => rw [hx] at hdd; exact hdd.elim
  refine hQ act' w' h4.size hd' ?_ h1.below
  have e1 : act'.tmps[t]? = some (act'.tmps[t]) := Array.getElem?_eq_getElem k1
  have e2 : act'.tmps.getD t undef = act'.tmps[t] := by simp [k1]
  rw [e1]
  rw [e2] at k2
  generalize act'.tmps[t] = z at k2
  cases k2
  rfl
end
/-- All that lies in memory is known to stay. -/
def GhW (w : World) : Gh := { loc := fun _ => none, im := fun b o => b < w.heap.size ∧ ∃ v, w.cell? ⟨b, o, none⟩ = some v }
theorem SR.whole (w : World) : SR w.heap.size w (GhW w) St0 w :=
  ⟨.refl _ _, Nat.le_refl _, fun _ _ h => h.2, fun _ _ => ⟨rfl, rfl⟩, Nat.le_refl _, fun _ _ _ h => (by cases h), fun _ _ h => (by cases h), fun _ _ _ _ _ _ _ h => (by cases h)⟩
end Go.Ax
