/-
  What the kernel reckons by code made ready, the model does.
-/
import Derived.Test.YtjgknelmjdallaaGreatDoorFcXd
noncomputable section
namespace Go.Ax
open Go.RowKit
set_option linter.unusedVariables false
set_option linter.unusedSimpArgs false
section
variable {E : Env}
theorem callsX_true (hE : E.Ok) (hI : IntrOk E) (hmix : E.P.follows .mixedOrders = true) (hG : E.G = fun _ => none) {m : Nat} {k : FuncId} {args : List AV} (h : isTrueR (callX E m k args St0) = true) (hF : (E.F k).isSome = true) {w : World} {vs : List Value} (hv : VRL Gh0 w args vs) :
    Calls E.P k vs.toArray w fun e w' => e = .returned (.bool true) ∧ Below w.heap.size w w' := by
  cases hr : callX E m k args St0 with
  | fail => rw [hr] at h; cases h
  | pan a S => rw [hr] at h; cases h
  | ret a S =>
    rw [hr] at h
    have hne : callX E m k args St0 ≠ .fail := by rw [hr]; exact fun e => by cases e
    have := callX_ok hE hI hmix m w.heap.size w k args St0 hne Gh0 w vs (SR.start w) (by rw [hG]; exact GR.none) hv hF
    rw [hr] at this
    refine this.mono fun e w' he => ?_
    obtain ⟨γ', v, h1, h2, h3, rfl⟩ := he
    unfold isTrueR at h
    split at h
    · rename_i b S' heq
      injection heq with e1 e2
      subst e1; subst h
      cases h3
      exact ⟨rfl, h1.below⟩
    · cases h
theorem codeX_true (hE : E.Ok) (hI : IntrOk E) (hmix : E.P.follows .mixedOrders = true) (hG : E.G = fun _ => none) {m n t : Nat} {c : Code} {f : T AV} (h : endsTrue t ((comp E n c none).c (callX E m) f [] St0) = true) {Q : Exit → Act → World → Prop} {act : Act} {w : World} (hf : FR Gh0 w f act.tmps) (hn : act.tmps.size = n) (hd : act.defers = [])
    (hQ : ∀ act' w', act'.tmps.size = n → act'.defers = [] → act'.tmps[t]? = some (.bool true) → Below w.heap.size w w' → Q .ret act' w') : c.wp E.P Q act w := by
  rcases comp_ok (E := E) (n := n) (callX_F m) c none f [] St0 with h0 | ⟨j, h0⟩
  · rw [h0] at h; cases h
  rw [← h0] at h
  have h : endsTrue t (runC E (drawnNew E) (callX E m) j n c ⟨f, []⟩ St0) = true := h
  refine (runC_sound hE (drawnNew_ok hE hmix) (callX_ok hE hI hmix m) j).code w.heap.size w Q n c Gh0 St0 w ⟨f, []⟩ act (SR.start w) ⟨hf, hn, by rw [hd]; trivial⟩ (by rw [hG]; exact GR.none) ?_
  cases hr : runC E (drawnNew E) (callX E m) j n c ⟨f, []⟩ St0 with
  | fail => rw [hr] at h; cases h
  | out e f' S' =>
    rw [hr] at h
    cases e with
    | normal => cases h
    | exit i => cases h
    | pan a => cases h
    | ret =>
      intro γ' act' w' h1 h2 h3
      show Q .ret act' w'
      simp only [endsTrue] at h
      split at h
      · rename_i hdf
        split at h
        · rename_i b hb
          subst h
          obtain ⟨k1, k2⟩ := h3.tmps t _ hb
          have hdd := h3.dfr
          have hd' : act'.defers = [] := by
            rw [hdf] at hdd
            cases hx : act'.defers with
            | nil => rfl
            | cons a r => rw [hx] at hdd; exact hdd.elim
          refine hQ act' w' h3.size hd' ?_ h1.below
          have e1 : act'.tmps[t]? = some (act'.tmps[t]) := Array.getElem?_eq_getElem k1
          have e2 : act'.tmps.getD t undef = act'.tmps[t] := by simp [k1]
          rw [e1]
          rw [e2] at k2
          generalize act'.tmps[t] = z at k2
          cases k2
          rfl
        · cases h
      · cases h
end
end Go.Ax
