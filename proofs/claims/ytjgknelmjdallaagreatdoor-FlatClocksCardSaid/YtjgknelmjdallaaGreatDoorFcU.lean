/-
  Functions of which one knows by other means what they answer; where a run begins.
-/
import Derived.Test.YtjgknelmjdallaaGreatDoorFcR
import Derived.Lib.Repeat
noncomputable section
namespace Go.Ax
open Go.RowKit
set_option linter.unusedVariables false
set_option linter.unusedSimpArgs false
/-- All that was there is as it was. -/
theorem SR.after {base : Nat} {w0 w w' : World} {γ : Gh} {S : St} (h : SR base w0 γ S w) (hb : Below w.heap.size w w') : SR base w0 γ S w' ∧ Ext γ S w γ S w' := by
  have hc : ∀ b o v, w.cell? ⟨b, o, none⟩ = some v → w'.cell? ⟨b, o, none⟩ = some v := fun b o v hv => (hb.cell (World.block_lt_of_cell? w _ hv)).trans hv
  have ev : Ev γ w γ w' := ⟨fun _ _ h => h, fun _ _ h => h, fun b o v _ hv => hc b o v hv, fun b arr T fr ha => ⟨arr, fr, (hb.block b (Array.getElem?_eq_some_iff.1 ha).1).trans ha, rfl⟩⟩
  refine ⟨⟨h.below.trans (hb.mono h.hbase), Nat.le_trans h.hbase hb.size, fun b o hi => ?_, h.fresh, h.pos, fun id b s e => Nat.lt_of_lt_of_le (h.inb id b s e) hb.size, fun id c e => ?_, h.inj⟩,
    ⟨ev, Nat.le_refl _, fun _ _ => rfl, hb.size, fun id c b s h l => .inr ⟨id, c, s, h, l⟩, fun b hl _ => ⟨hb.block b hl, fun _ h => h⟩⟩⟩
  · obtain ⟨v, hv⟩ := h.imc b o hi; exact ⟨v, hc b o v hv⟩
  · obtain ⟨b, s, h1, h2, h3⟩ := h.live id c e
    exact ⟨b, s, h1, h2, h3.keep ev (hb.block b (h.inb id b s h1)) (fun _ h => h)⟩
/-- A function that makes a value without addresses out of such. -/
def plainI (g : List AV → Option AV) (args : List AV) (S : St) : R := match g args with
  | some a => .ret a S
  | none => .fail
theorem plainI_ok {P : Program} {k : FuncId} {g : List AV → Option AV} (hg : ∀ args a, g args = some a → ∀ γ w (vs : List Value), VRL γ w args vs → Calls P k vs.toArray w fun e w' => Below w.heap.size w w' ∧ ∃ v, e = .returned v ∧ ∀ γ w, VR γ w a v)
    (base : Nat) (w0 : World) (args : List AV) (S : St) (hne : plainI g args S ≠ .fail) (γ : Gh) (w : World) (vs : List Value) (hS : SR base w0 γ S w) (hv : VRL γ w args vs) : Calls P k vs.toArray w (RetOk base w0 γ S w (plainI g args S)) := by
  cases hga : g args with
  | none => exact absurd (by simp [plainI, hga]) hne
  | some a =>
    refine (hg args a hga γ w vs hv).mono fun e w' h => ?_
    obtain ⟨hb, v, rfl, hvr⟩ := h
    obtain ⟨h1, h2⟩ := hS.after hb
    show RetOk base w0 γ S w (plainI g args S) (.returned v) w'
    simp only [plainI, hga]
    exact ⟨γ, v, h1, h2, hvr _ _, rfl⟩
/-- strings.Repeat. -/
def repeatI (args : List AV) : Option AV := match args with
  | [.v (.string s), .v (.int .i64 c)] => if 0 ≤ c ∧ c ≤ 9223372036854775807 ∧ s.size * c.toNat ≤ 140737488355328 then some (.v (.string ⟨⟨Lib.repeatL s.data.toList c.toNat⟩⟩)) else none
  | _ => none
theorem VRL.two {γ : Gh} {w : World} {a b : AV} {vs : List Value} (h : VRL γ w [a, b] vs) : ∃ x y, vs = [x, y] ∧ VR γ w a x ∧ VR γ w b y := by
  obtain ⟨h1, h2⟩ := h
  match vs, h1 with
  | [x, y], _ => exact ⟨x, y, rfl, h2 0 (by simp) (by simp), h2 1 (by simp) (by simp)⟩
theorem repeatI_ok {P : Program} {k : FuncId} (hrep : ∀ (s : ByteArray) (c : Nat) (w : World), c ≤ 9223372036854775807 → s.size * c ≤ 140737488355328 →
      Calls P k #[.string s, .int .i64 c] w fun e w' => e = .returned (.string ⟨(Lib.repeatL s.data.toList c).toArray⟩) ∧ Below w.heap.size w w') :
    ∀ args a, repeatI args = some a → ∀ γ w (vs : List Value), VRL γ w args vs → Calls P k vs.toArray w fun e w' => Below w.heap.size w w' ∧ ∃ v, e = .returned v ∧ ∀ γ w, VR γ w a v := by
  intro args a h γ w vs hv
  unfold repeatI at h
  split at h
  · rename_i s c
    split at h
    · rename_i hc
      obtain ⟨h0, h1, h2⟩ := hc
      injection h with h; subst h
      obtain ⟨x, y, rfl, hx, hy⟩ := hv.two
      cases hx; cases hy
      have := hrep s c.toNat w (by omega) h2
      rw [show ((c.toNat : Nat) : Int) = c by omega] at this
      exact this.mono fun e w' he => ⟨he.2, _, he.1, fun _ _ => .v _ rfl⟩
    · cases h
  · cases h
/-- Where a run begins: nothing is named, nothing is known to stay. -/
def Gh0 : Gh := { loc := fun _ => none, im := fun _ _ => False }
def St0 : St := { next := 2, mem := .leaf }
theorem SR.start (w : World) : SR w.heap.size w Gh0 St0 w :=
  ⟨.refl _ _, Nat.le_refl _, fun _ _ h => h.elim, fun _ _ => ⟨rfl, rfl⟩, Nat.le_refl _, fun _ _ _ h => (by cases h), fun _ _ h => (by cases h), fun _ _ _ _ _ _ _ h => (by cases h)⟩
theorem GR.none {γ : Gh} {w : World} : GR γ w (fun _ => Option.none) := fun _ _ h => (by cases h)
/-- A run that ends in a given truth. -/
def isTrueR : R → Bool
  | .ret (.v (.bool b)) _ => b
  | _ => false
/-- Code that returns with a truth in a given place. -/
def endsTrue (t : Nat) : O → Bool
  | .out .ret f _ => match f.dfr with
    | [] => match f.tmps.get t with
      | some (.v (.bool b)) => b
      | _ => false
    | _ => false
  | _ => false
section
variable {E : Env}
/-- What the kernel reckons of a call, the model does. -/
theorem calls_true (hE : E.Ok) (hI : IntrOk E) (hmix : E.P.follows .mixedOrders = true) (hG : E.G = fun _ => none) {m : Nat} {k : FuncId} {args : List AV} (h : isTrueR (callR E m k args St0) = true) (hF : (E.F k).isSome = true) {w : World} {vs : List Value} (hv : VRL Gh0 w args vs) :
    Calls E.P k vs.toArray w fun e w' => e = .returned (.bool true) ∧ Below w.heap.size w w' := by
  rw [callR_eq] at h
  cases hr : callN E (drawnRun E) m k args St0 with
  | fail => rw [hr] at h; cases h
  | pan a S => rw [hr] at h; cases h
  | ret a S =>
    rw [hr] at h
    have hne : callN E (drawnRun E) m k args St0 ≠ .fail := by rw [hr]; exact fun e => by cases e
    have := call_sound hE hI (drawnRun_ok hE hmix) m w.heap.size w k args St0 hne Gh0 w vs (SR.start w) (by rw [hG]; exact GR.none) hv hF
    rw [hr] at this
    refine this.mono fun e w' he => ?_
    obtain ⟨γ', v, h1, h2, h3, rfl⟩ := he
    unfold isTrueR at h
    split at h
    · rename_i b S' heq
      injection heq with e1 e2
      subst e1; subst h
      cases h3
      exact ⟨rfl, h1.below⟩
    · cases h
theorem code_true (hE : E.Ok) (hI : IntrOk E) (hmix : E.P.follows .mixedOrders = true) (hG : E.G = fun _ => none) {m n t : Nat} {c : Code} {f : T AV} (h : endsTrue t (runR E m n c ⟨f, []⟩ St0) = true) {Q : Exit → Act → World → Prop} {act : Act} {w : World} (hf : FR Gh0 w f act.tmps) (hn : act.tmps.size = n) (hd : act.defers = [])
    (hQ : ∀ act' w', act'.tmps.size = n → act'.defers = [] → act'.tmps[t]? = some (.bool true) → Below w.heap.size w w' → Q .ret act' w') : c.wp E.P Q act w := by
  rw [runR_eq] at h
  refine (run_sound hE hI (drawnRun_ok hE hmix) m).code w.heap.size w Q n c Gh0 St0 w ⟨f, []⟩ act (SR.start w) ⟨hf, hn, by rw [hd]; trivial⟩ (by rw [hG]; exact GR.none) ?_
  cases hr : run E (drawnRun E) m n c ⟨f, []⟩ St0 with
  | fail => rw [hr] at h; cases h
  | out e f' S' =>
    rw [hr] at h
    cases e with
    | normal => cases h
    | exit i => cases h
    | pan a => cases h
    | ret =>
      intro γ' act' w' h1 h2 h3
      show Q .ret act' w'
      simp only [endsTrue] at h
      split at h
      · rename_i hdf
        split at h
        · rename_i b hb
          subst h
          obtain ⟨k1, k2⟩ := h3.tmps t _ hb
          have hdd := h3.dfr
          have hd' : act'.defers = [] := by
            rw [hdf] at hdd
            cases hx : act'.defers with
            | nil => rfl
            | cons a r => rw [hx] at hdd; exact hdd.elim
          refine hQ act' w' h3.size hd' ?_ h1.below
          have e1 : act'.tmps[t]? = some (act'.tmps[t]) := Array.getElem?_eq_getElem k1
          have e2 : act'.tmps.getD t undef = act'.tmps[t] := by simp [k1]
          rw [e1]
          rw [e2] at k2
          generalize act'.tmps[t] = z at k2
          cases k2
          rfl
        · cases h
      · cases h
end
end Go.Ax
