/-
  Functions of which one knows by other means what they answer; where a run begins.
-/
import Derived.Test.YtbchlfdjedbfhaaDoorWG6
import Derived.Lib.Repeat
set_option linter.unusedVariables false
set_option linter.unusedSimpArgs false
noncomputable section
namespace Go.Ax
open Go.RowKit
set_option linter.unusedVariables false
set_option linter.unusedSimpArgs false
/-- All that was there is as it was. -/
theorem SR.after {base : Nat} {w0 w w' : World} {γ : Gh} {S : St} (h : SR base w0 γ S w) (hb : Below w.heap.size w w') : SR base w0 γ S w' ∧ Ext γ S w γ S w' := by
  have hc : ∀ b o v, w.cell? ⟨b, o, none⟩ = some v → w'.cell? ⟨b, o, none⟩ = some v := fun b o v hv => (hb.cell (World.block_lt_of_cell? w _ hv)).trans hv
  have ev : Ev γ w γ w' := ⟨fun _ _ h => h, fun _ _ h => h, fun b o v _ hv => hc b o v hv, fun b arr T fr ha => ⟨arr, fr, (hb.block b (Array.getElem?_eq_some_iff.1 ha).1).trans ha, rfl⟩⟩
  refine ⟨⟨h.below.trans (hb.mono h.hbase), Nat.le_trans h.hbase hb.size, fun b o hi => ?_, h.fresh, h.pos, fun id b s e => Nat.lt_of_lt_of_le (h.inb id b s e) hb.size, fun id c e => ?_, h.inj⟩,
    ⟨ev, Nat.le_refl _, fun _ _ => rfl, hb.size, fun id c b s h l => .inr ⟨id, c, s, h, l⟩, fun b hl _ => ⟨hb.block b hl, fun _ h => h⟩⟩⟩
  · obtain ⟨v, hv⟩ := h.imc b o hi; exact ⟨v, hc b o v hv⟩
  · obtain ⟨b, s, h1, h2, h3⟩ := h.live id c e
    exact ⟨b, s, h1, h2, h3.keep ev (hb.block b (h.inb id b s h1)) (fun _ h => h)⟩
/-- A function that makes a value without addresses out of such. -/
def plainI (g : List AV → Option AV) (args : List AV) (S : St) : R := match g args with
  | some a => .ret a S
  | none => .fail
theorem plainI_ok {P : Program} {k : FuncId} {g : List AV → Option AV} (hg : ∀ args a, g args = some a → ∀ γ w (vs : List Value), VRL γ w args vs → Calls P k vs.toArray w fun e w' => Below w.heap.size w w' ∧ ∃ v, e = .returned v ∧ ∀ γ w, VR γ w a v)
    (base : Nat) (w0 : World) (args : List AV) (S : St) (hne : plainI g args S ≠ .fail) (γ : Gh) (w : World) (vs : List Value) (hS : SR base w0 γ S w) (hv : VRL γ w args vs) : Calls P k vs.toArray w (RetOk base w0 γ S w (plainI g args S)) := by
  cases hga : g args with
  | none => exact absurd (by simp [plainI, hga]) hne
  | some a =>
    refine (hg args a hga γ w vs hv).mono fun e w' h => ?_
    obtain ⟨hb, v, rfl, hvr⟩ := h
    obtain ⟨h1, h2⟩ := hS.after hb
    show RetOk base w0 γ S w (plainI g args S) (.returned v) w'
    simp only [plainI, hga]
    exact ⟨γ, v, h1, h2, hvr _ _, rfl⟩
/-- strings.Repeat. -/
def repeatI (args : List AV) : Option AV := match args with
  | [.v (.string s), .v (.int .i64 c)] => if 0 ≤ c ∧ c ≤ 9223372036854775807 ∧ s.size * c.toNat ≤ 140737488355328 then some (.v (.string ⟨⟨Lib.repeatL s.data.toList c.toNat⟩⟩)) else none
  | _ => none
theorem VRL.two {γ : Gh} {w : World} {a b : AV} {vs : List Value} (h : VRL γ w [a, b] vs) : ∃ x y, vs = [x, y] ∧ VR γ w a x ∧ VR γ w b y := by
  obtain ⟨h1, h2⟩ := h
  match vs, h1 with
  | [x, y], _ => exact ⟨x, y, rfl, h2 0 (by simp) (by simp), h2 1 (by simp) (by simp)⟩
theorem repeatI_ok {P : Program} {k : FuncId} (hrep : ∀ (s : ByteArray) (c : Nat) (w : World), c ≤ 9223372036854775807 → s.size * c ≤ 140737488355328 →
      Calls P k #[.string s, .int .i64 c] w fun e w' => e = .returned (.string ⟨(Lib.repeatL s.data.toList c).toArray⟩) ∧ Below w.heap.size w w') :
    ∀ args a, repeatI args = some a → ∀ γ w (vs : List Value), VRL γ w args vs → Calls P k vs.toArray w fun e w' => Below w.heap.size w w' ∧ ∃ v, e = .returned v ∧ ∀ γ w, VR γ w a v := by
  intro args a h γ w vs hv
  unfold repeatI at h
  split at h
  · rename_i s c
    split at h
    · rename_i hc
      obtain ⟨h0, h1, h2⟩ := hc
      injection h with h; subst h
      obtain ⟨x, y, rfl, hx, hy⟩ := hv.two
      cases hx; cases hy
      have := hrep s c.toNat w (by omega) h2
      rw [show ((c.toNat : Nat) : Int) = c by omega] at this
      exact this.mono fun e w' he => ⟨he.2, _, he.1, fun _ _ => .v _ rfl⟩
    · cases h
  · cases h
/-- Where a run begins: nothing is named, nothing is known to stay. -/
def Gh0 : Gh := { loc := fun _ => none, im := fun _ _ => False }
def St0 : St := { next := 2, mem := .leaf }
theorem SR.start (w : World) : SR w.heap.size w Gh0 St0 w :=
  ⟨.refl _ _, Nat.le_refl _, fun _ _ h => h.elim, fun _ _ => ⟨rfl, rfl⟩, Nat.le_refl _, fun _ _ _ h => (by cases h), fun _ _ h => (by cases h), fun _ _ _ _ _ _ _ h => (by cases h)⟩
theorem GR.none {γ : Gh} {w : World} : GR γ w (fun _ => Option.none) := fun _ _ h => (by cases h)
/-- A run that ends in a given truth. -/
def isTrueR : R → Bool
  | .ret (.v (.bool b)) _ => b
  | _ => false
/-- Code that returns with a truth in a given place. -/
def endsTrue (t : Nat) : O → Bool
  | .out .ret f _ => match f.dfr with
    | [] => match f.tmps.get t with
      | some (.v (.bool b)) => b
      | _ => false
    | _ => false
  | _ => false
section
variable {E : Env}
/-- What the kernel reckons of a call, the model does. -/
theorem calls_true (hE : E.Ok) (hI : IntrOk E) (hmix : E.P.follows .mixedOrders = true) (hG : E.G = fun _ => none) {m : Nat} {k : FuncId} {args : List AV} (h : isTrueR (callR E m k args St0) = true) (hF : (E.F k).isSome = true) {w : World} {vs : List Value} (hv : VRL Gh0 w args vs) :
    Calls E.P k vs.toArray w fun e w' => e = .returned (.bool true) ∧ Below w.heap.size w w' := by
  rw [callR_eq] at h
  cases hr : callN E (drawnRun E) m k args St0 with
  | fail => rw [hr] at h; cases h
  | pan a S => rw [hr] at h; cases h
  | ret a S =>
    rw [hr] at h
    have hne : callN E (drawnRun E) m k args St0 ≠ .fail := by rw [hr]; exact fun e => by cases e
    have := call_sound hE hI (drawnRun_ok hE hmix) m w.heap.size w k args St0 hne Gh0 w vs (SR.start w) (by rw [hG]; exact GR.none) hv hF
    rw [hr] at this
    refine this.mono fun e w' he => ?_
    obtain ⟨γ', v, h1, h2, h3, rfl⟩ := he
    unfold isTrueR at h
    split at h
    · rename_i b S' heq
      injection heq with e1 e2
      subst e1; subst h
      cases h3
      exact ⟨rfl, h1.below⟩
    · cases h
theorem code_true (hE : E.Ok) (hI : IntrOk E) (hmix : E.P.follows .mixedOrders = true) (hG : E.G = fun _ => none) {m n t : Nat} {c : Code} {f : T AV} (h : endsTrue t (runR E m n c ⟨f, []⟩ St0) = true) {Q : Exit → Act → World → Prop} {act : Act} {w : World} (hf : FR Gh0 w f act.tmps) (hn : act.tmps.size = n) (hd : act.defers = [])
    (hQ : ∀ act' w', act'.tmps.size = n → act'.defers = [] → act'.tmps[t]? = some (.bool true) → Below w.heap.size w w' → Q .ret act' w') : c.wp E.P Q act w := by
  rw [runR_eq] at h
  refine (run_sound hE hI (drawnRun_ok hE hmix) m).code w.heap.size w Q n c Gh0 St0 w ⟨f, []⟩ act (SR.start w) ⟨hf, hn, by rw [hd]; trivial⟩ (by rw [hG]; exact GR.none) ?_
  cases hr : run E (drawnRun E) m n c ⟨f, []⟩ St0 with
  | fail => rw [hr] at h; cases h
  | out e f' S' =>
    rw [hr] at h
    cases e with
    | normal => cases h
    | exit i => cases h
    | pan a => cases h
    | ret =>
      intro γ' act' w' h1 h2 h3
      show Q .ret act' w'
      simp only [endsTrue] at h
      split at h
      · rename_i hdf
        split at h
        · rename_i b hb
          subst h
          obtain ⟨k1, k2⟩ := h3.tmps t _ hb
          have hdd := h3.dfr
          have hd' : act'.defers = [] := by
            rw [hdf] at hdd
            cases hx : act'.defers with
            | nil => rfl
            | cons a r => rw [hx] at hdd; exact hdd.elim
          refine hQ act' w' h3.size hd' ?_ h1.below
          have e1 : act'.tmps[t]? = some (act'.tmps[t]) := Array.getElem?_eq_getElem k1
          have e2 : act'.tmps.getD t undef = act'.tmps[t] := by simp [k1]
          rw [e1]
          rw [e2] at k2
          generalize act'.tmps[t] = z at k2
          cases k2
          rfl
        · cases h
      · cases h
end
end Go.Ax
noncomputable section
namespace Go.Ax
open Go.RowKit
set_option linter.unusedVariables false
set_option linter.unusedSimpArgs false
abbrev Ck := CallK → T AV → List Dfr → St → O
structure Bx where
  c : Ck
structure GB where
  g : T AV → Option AV
structure SB where
  s : T AV → AV → T AV
structure VB where
  v : T AV → St → Option AV
structure FB where
  f : CallK → List AV → St → R
/-- Places of a frame. -/
def gEnd : GB := ⟨fun t => T.rec (motive := fun _ => Option AV) none (fun v _ _ _ _ _ _ _ _ => v) t⟩
def gC0 (b : GB) : GB := ⟨fun t => T.rec (motive := fun _ => Option AV) none (fun _ c _ _ _ _ _ _ _ => b.g c) t⟩
def gC1 (b : GB) : GB := ⟨fun t => T.rec (motive := fun _ => Option AV) none (fun _ _ c _ _ _ _ _ _ => b.g c) t⟩
def gC2 (b : GB) : GB := ⟨fun t => T.rec (motive := fun _ => Option AV) none (fun _ _ _ c _ _ _ _ _ => b.g c) t⟩
def gC3 (b : GB) : GB := ⟨fun t => T.rec (motive := fun _ => Option AV) none (fun _ _ _ _ c _ _ _ _ => b.g c) t⟩
def pathG (p : List D4) : GB := List.rec (motive := fun _ => GB) gEnd (fun d _ ih => D4.rec (motive := fun _ => GB) (gC0 ih) (gC1 ih) (gC2 ih) (gC3 ih) d) p
theorem pathG_ok : ∀ (p : List D4) (t : T AV), (pathG p).g t = t.getP p
  | [], .leaf => rfl
  | [], .node .. => rfl
  | d :: p, .leaf => by cases d <;> rfl
  | d :: p, .node v c0 c1 c2 c3 => by
    cases d
    · exact pathG_ok p c0
    · exact pathG_ok p c1
    · exact pathG_ok p c2
    · exact pathG_ok p c3
def sEnd : SB := ⟨fun t a => T.rec (motive := fun _ => T AV) (.node (some a) .leaf .leaf .leaf .leaf) (fun _ c0 c1 c2 c3 _ _ _ _ => .node (some a) c0 c1 c2 c3) t⟩
def sC0 (b : SB) : SB := ⟨fun t a => T.rec (motive := fun _ => T AV) (.node none (b.s .leaf a) .leaf .leaf .leaf) (fun v c0 c1 c2 c3 _ _ _ _ => .node v (b.s c0 a) c1 c2 c3) t⟩
def sC1 (b : SB) : SB := ⟨fun t a => T.rec (motive := fun _ => T AV) (.node none .leaf (b.s .leaf a) .leaf .leaf) (fun v c0 c1 c2 c3 _ _ _ _ => .node v c0 (b.s c1 a) c2 c3) t⟩
def sC2 (b : SB) : SB := ⟨fun t a => T.rec (motive := fun _ => T AV) (.node none .leaf .leaf (b.s .leaf a) .leaf) (fun v c0 c1 c2 c3 _ _ _ _ => .node v c0 c1 (b.s c2 a) c3) t⟩
def sC3 (b : SB) : SB := ⟨fun t a => T.rec (motive := fun _ => T AV) (.node none .leaf .leaf .leaf (b.s .leaf a)) (fun v c0 c1 c2 c3 _ _ _ _ => .node v c0 c1 c2 (b.s c3 a)) t⟩
def pathS (p : List D4) : SB := List.rec (motive := fun _ => SB) sEnd (fun d _ ih => D4.rec (motive := fun _ => SB) (sC0 ih) (sC1 ih) (sC2 ih) (sC3 ih) d) p
theorem pathS_ok : ∀ (p : List D4) (t : T AV) (a : AV), (pathS p).s t a = T.setP p t (some a)
  | [], .leaf, a => rfl
  | [], .node .., a => rfl
  | d :: p, .leaf, a => by
    have ih := pathS_ok p .leaf a
    cases d
    · show T.node none ((pathS p).s .leaf a) _ _ _ = T.node none (T.setP p .leaf (some a)) _ _ _; rw [ih]
    · show T.node none _ ((pathS p).s .leaf a) _ _ = T.node none _ (T.setP p .leaf (some a)) _ _; rw [ih]
    · show T.node none _ _ ((pathS p).s .leaf a) _ = T.node none _ _ (T.setP p .leaf (some a)) _; rw [ih]
    · show T.node none _ _ _ ((pathS p).s .leaf a) = T.node none _ _ _ (T.setP p .leaf (some a)); rw [ih]
  | d :: p, .node v c0 c1 c2 c3, a => by
    have ih := fun t => pathS_ok p t a
    cases d
    · show T.node v ((pathS p).s c0 a) _ _ _ = T.node v (T.setP p c0 (some a)) _ _ _; rw [ih]
    · show T.node v _ ((pathS p).s c1 a) _ _ = T.node v _ (T.setP p c1 (some a)) _ _; rw [ih]
    · show T.node v _ _ ((pathS p).s c2 a) _ = T.node v _ _ (T.setP p c2 (some a)) _; rw [ih]
    · show T.node v _ _ _ ((pathS p).s c3 a) = T.node v _ _ _ (T.setP p c3 (some a)); rw [ih]
def getG (n : Nat) : GB := pathG (path n)
def setS (n : Nat) : SB := pathS (path n)
theorem getG_ok (n : Nat) (t : T AV) : (getG n).g t = t.get n := pathG_ok _ _
theorem setS_ok (n : Nat) (t : T AV) (a : AV) : (setS n).s t a = t.set n (some a) := pathS_ok _ _ _
def constG (x : Option AV) : GB := ⟨fun _ => x⟩
def opG (G : Gl) (x : Operand) : GB := Operand.rec (motive := fun _ => GB) (fun t => getG t) (fun v => constG (ofConst 8 v)) (fun g => constG (evalO G .leaf (.global g))) (fun k => constG (some (.fn (.func k) [] []))) x
theorem opG_ok (G : Gl) (x : Operand) (f : T AV) : (opG G x).g f = evalO G f x := by
  cases x with
  | tmp t => exact getG_ok t f
  | _ => rfl
/-- A value, by what it is looked at for. -/
inductive SV where
  | b (x : Bool)
  | i (k : IntKind) (x : Int)
  | s (l : List UInt8)
  | no
inductive PV where
  | p (id off : Nat)
  | e (cs : List AV)
  | n
  | l (tok off sz : Nat) (es : List AV)
  | a (cs : List AV)
  | t (cs : List AV)
  | no
  | w (id off n sz : Nat)
def svV (x : Value) : SV := Value.rec (motive_1 := fun _ => SV) (motive_2 := fun _ => Unit) (motive_3 := fun _ => Unit) SV.b SV.i (fun _ _ => .no) (fun _ _ _ => .no) (fun s => .s s.data.toList) (fun _ => .no) (fun _ _ _ => .no) (fun _ => .no) (fun _ => .no) (fun _ _ _ _ _ => .no) .no (fun _ _ _ => .no) .no (fun _ _ => .no) (fun _ _ => .no) (fun _ _ => ()) () (fun _ _ _ _ => ()) x
def AV.sv (a : AV) : SV := AV.rec (motive_1 := fun _ => SV) (motive_2 := fun _ => Unit) svV .no (fun _ _ => .no) (fun _ _ => .no) .no (fun _ _ _ _ _ => .no) .no (fun _ => .no) (fun _ _ _ _ _ => .no) (fun _ _ _ => .no) (fun _ _ => .no) (fun _ _ => .no) (fun _ _ _ _ => .no) () (fun _ _ _ _ => ()) a
def AV.pv (a : AV) : PV := AV.rec (motive_1 := fun _ => PV) (motive_2 := fun _ => Unit) (fun _ => .no) .no PV.p (fun cs _ => .e cs) .n (fun tok off sz es _ => .l tok off sz es) .no (fun _ => .no) (fun _ _ _ _ _ => .no) (fun _ _ _ => .no) (fun cs _ => .a cs) (fun cs _ => .t cs) PV.w () (fun _ _ _ _ => ()) a
theorem sv_b {a : AV} {x : Bool} (h : a.sv = .b x) : a = .v (.bool x) := by
  cases a with
  | v y => cases y <;> cases h; rfl
  | _ => cases h
theorem sv_i {a : AV} {k : IntKind} {x : Int} (h : a.sv = .i k x) : a = .v (.int k x) := by
  cases a with
  | v y => cases y <;> cases h; rfl
  | _ => cases h
theorem sv_s {a : AV} {l : List UInt8} (h : a.sv = .s l) : ∃ s : ByteArray, a = .v (.string s) ∧ s.data.toList = l := by
  cases a with
  | v y => cases y <;> cases h; exact ⟨_, rfl, rfl⟩
  | _ => cases h
theorem pv_p {a : AV} {id off : Nat} (h : a.pv = .p id off) : a = .ptr id off := by cases a <;> cases h; rfl
theorem pv_e {a : AV} {cs : List AV} (h : a.pv = .e cs) : a = .ep cs := by cases a <;> cases h; rfl
theorem pv_n {a : AV} (h : a.pv = .n) : a = .nils := by cases a <;> cases h; rfl
theorem pv_l {a : AV} {tok off sz : Nat} {es : List AV} (h : a.pv = .l tok off sz es) : a = .sl tok off sz es := by cases a <;> cases h; rfl
theorem pv_a {a : AV} {cs : List AV} (h : a.pv = .a cs) : a = .agg cs := by cases a <;> cases h; rfl
theorem pv_w {a : AV} {id off n sz : Nat} (h : a.pv = .w id off n sz) : a = .bs id off n sz := by cases a <;> cases h; rfl
theorem pv_t {a : AV} {cs : List AV} (h : a.pv = .t cs) : a = .tup cs := by cases a <;> cases h; rfl
/-- Rows. -/
def lenR {α : Type} (l : List α) : Nat := List.rec (motive := fun _ => Nat) 0 (fun _ _ n => Nat.succ n) l
theorem lenR_eq {α : Type} : ∀ l : List α, lenR l = l.length
  | [] => rfl
  | _ :: r => congrArg Nat.succ (lenR_eq r)
def atR {α : Type} (n : Nat) : List α → Option α := Nat.rec (motive := fun _ => List α → Option α) (fun l => List.rec (motive := fun _ => Option α) none (fun c _ _ => some c) l) (fun _ ih l => List.rec (motive := fun _ => Option α) none (fun _ r _ => ih r) l) n
theorem atR_eq {α : Type} : ∀ (n : Nat) (l : List α), atR n l = l[n]?
  | 0, [] => rfl
  | 0, _ :: _ => rfl
  | n + 1, [] => rfl
  | n + 1, _ :: r => (atR_eq n r).trans (by simp)
def dropR {α : Type} (n : Nat) : List α → Option (List α) := Nat.rec (motive := fun _ => List α → Option (List α)) (fun l => some l) (fun _ ih l => List.rec (motive := fun _ => Option (List α)) none (fun _ r _ => ih r) l) n
theorem dropR_some {α : Type} : ∀ (n : Nat) (l r : List α), dropR n l = some r → n ≤ l.length ∧ r = l.drop n
  | 0, l, r, h => by injection h with h; subst h; exact ⟨Nat.zero_le _, rfl⟩
  | n + 1, [], r, h => by cases h
  | n + 1, _ :: l, r, h => by
    obtain ⟨h1, h2⟩ := dropR_some n l r h
    exact ⟨by simpa using h1, h2⟩
def consO {α : Type} (c : α) (o : Option (List α)) : Option (List α) := Option.rec (motive := fun _ => Option (List α)) none (fun r => some (c :: r)) o
def takeR {α : Type} (n : Nat) : List α → Option (List α) := Nat.rec (motive := fun _ => List α → Option (List α)) (fun l => some []) (fun _ ih l => List.rec (motive := fun _ => Option (List α)) none (fun c r _ => consO c (ih r)) l) n
theorem takeR_some {α : Type} : ∀ (n : Nat) (l r : List α), takeR n l = some r → n ≤ l.length ∧ r = l.take n
  | 0, l, r, h => by injection h with h; subst h; exact ⟨Nat.zero_le _, rfl⟩
  | n + 1, [], r, h => by cases h
  | n + 1, c :: l, r, h => by
    have h : consO c (takeR n l) = some r := h
    cases hq : takeR n l with
    | none => rw [hq] at h; cases h
    | some q =>
      rw [hq] at h
      have h : some (c :: q) = some r := h
      injection h with h; subst h
      obtain ⟨h1, h2⟩ := takeR_some n l q hq
      exact ⟨by simpa using h1, by rw [h2]; rfl⟩
/-- Cells put in place of others. -/
def overR {α : Type} (ys : List α) : List α → Option (List α) := List.rec (motive := fun _ => List α → Option (List α)) (fun l => some l) (fun y _ ih l => List.rec (motive := fun _ => Option (List α)) none (fun _ r _ => consO y (ih r)) l) ys
theorem overR_some {α : Type} : ∀ (ys l r : List α), overR ys l = some r → ys.length ≤ l.length ∧ r = ys ++ l.drop ys.length
  | [], l, r, h => by injection h with h; subst h; exact ⟨Nat.zero_le _, rfl⟩
  | y :: ys, [], r, h => by cases h
  | y :: ys, c :: l, r, h => by
    have h : consO y (overR ys l) = some r := h
    cases hq : overR ys l with
    | none => rw [hq] at h; cases h
    | some q =>
      rw [hq] at h
      have h : some (y :: q) = some r := h
      injection h with h; subst h
      obtain ⟨h1, h2⟩ := overR_some ys l q hq
      exact ⟨by simpa using h1, by rw [h2]; rfl⟩
def overAtR {α : Type} (n : Nat) (ys : List α) : List α → Option (List α) := Nat.rec (motive := fun _ => List α → Option (List α)) (fun l => overR ys l) (fun _ ih l => List.rec (motive := fun _ => Option (List α)) none (fun c r _ => consO c (ih r)) l) n
theorem overAtR_some {α : Type} (ys : List α) : ∀ (n : Nat) (l r : List α), overAtR n ys l = some r → n + ys.length ≤ l.length ∧ r = l.take n ++ ys ++ l.drop (n + ys.length)
  | 0, l, r, h => by
    obtain ⟨h1, h2⟩ := overR_some ys l r h
    exact ⟨by omega, by rw [h2]; simp⟩
  | n + 1, [], r, h => by cases h
  | n + 1, c :: l, r, h => by
    have h : consO c (overAtR n ys l) = some r := h
    cases hq : overAtR n ys l with
    | none => rw [hq] at h; cases h
    | some q =>
      rw [hq] at h
      have h : some (c :: q) = some r := h
      injection h with h; subst h
      obtain ⟨h1, h2⟩ := overAtR_some ys n l q hq
      refine ⟨by simp; omega, ?_⟩
      rw [h2, show n + 1 + ys.length = (n + ys.length) + 1 by omega]
      simp
/-- Numbers. -/
def ltI1 (a : Nat) (y : Int) : Bool := Int.rec (motive := fun _ => Bool) (fun b => Nat.ble (Nat.succ a) b) (fun _ => false) y
def ltI2 (a : Nat) (y : Int) : Bool := Int.rec (motive := fun _ => Bool) (fun _ => true) (fun b => Nat.ble (Nat.succ b) a) y
def ltI (x y : Int) : Bool := Int.rec (motive := fun _ => Int → Bool) ltI1 ltI2 x y
theorem ltI_eq (x y : Int) : ltI x y = decide (x < y) := by
  cases x <;> cases y
  · rename_i a b
    show Nat.ble (a + 1) b = _
    by_cases h : a < b
    · rw [Nat.ble_eq_true_of_le h]; symm; rw [decide_eq_true_iff]; show (a : Int) < b; omega
    · have : Nat.ble (a + 1) b = false := by
        cases hb : Nat.ble (a + 1) b with
        | false => rfl
        | true => exact absurd (Nat.le_of_ble_eq_true hb) h
      rw [this]; symm; rw [decide_eq_false_iff_not]; show ¬ (a : Int) < b; omega
  · rename_i a b; show false = _; symm; rw [decide_eq_false_iff_not]; simp only [Int.ofNat_eq_natCast]; omega
  · rename_i a b; show true = _; symm; rw [decide_eq_true_iff]; simp only [Int.ofNat_eq_natCast]; omega
  · rename_i a b
    show Nat.ble (b + 1) a = _
    by_cases h : b < a
    · rw [Nat.ble_eq_true_of_le h]; symm; rw [decide_eq_true_iff]; omega
    · have : Nat.ble (b + 1) a = false := by
        cases hb : Nat.ble (b + 1) a with
        | false => rfl
        | true => exact absurd (Nat.le_of_ble_eq_true hb) h
      rw [this]; symm; rw [decide_eq_false_iff_not]; omega
def eqI1 (a : Nat) (y : Int) : Bool := Int.rec (motive := fun _ => Bool) (fun b => Nat.beq a b) (fun _ => false) y
def eqI2 (a : Nat) (y : Int) : Bool := Int.rec (motive := fun _ => Bool) (fun _ => false) (fun b => Nat.beq a b) y
def eqI (x y : Int) : Bool := Int.rec (motive := fun _ => Int → Bool) eqI1 eqI2 x y
theorem beq_dec (a b : Nat) : Nat.beq a b = decide (a = b) := by
  cases h : Nat.beq a b with
  | true => rw [Nat.eq_of_beq_eq_true h]; simp
  | false => symm; rw [decide_eq_false_iff_not]; exact Nat.ne_of_beq_eq_false h
theorem eqI_eq (x y : Int) : eqI x y = (x == y) := by
  rw [show (x == y) = decide (x = y) from rfl]
  cases x <;> cases y
  · rename_i a b; show Nat.beq a b = _; rw [beq_dec]; congr 1; simp; omega
  · rename_i a b; show false = _; symm; rw [decide_eq_false_iff_not]; exact fun e => by cases e
  · rename_i a b; show false = _; symm; rw [decide_eq_false_iff_not]; exact fun e => by cases e
  · rename_i a b; show Nat.beq a b = _; rw [beq_dec]; congr 1; simp
def notR (b : Bool) : Bool := Bool.rec (motive := fun _ => Bool) true false b
theorem notR_eq (b : Bool) : notR b = !b := by cases b <;> rfl
def kI8 (k : IntKind) : Bool := IntKind.rec (motive := fun _ => Bool) true false false false false false false false k
def kI16 (k : IntKind) : Bool := IntKind.rec (motive := fun _ => Bool) false true false false false false false false k
def kI32 (k : IntKind) : Bool := IntKind.rec (motive := fun _ => Bool) false false true false false false false false k
def kI64 (k : IntKind) : Bool := IntKind.rec (motive := fun _ => Bool) false false false true false false false false k
def kU8 (k : IntKind) : Bool := IntKind.rec (motive := fun _ => Bool) false false false false true false false false k
def kU16 (k : IntKind) : Bool := IntKind.rec (motive := fun _ => Bool) false false false false false true false false k
def kU32 (k : IntKind) : Bool := IntKind.rec (motive := fun _ => Bool) false false false false false false true false k
def kU64 (k : IntKind) : Bool := IntKind.rec (motive := fun _ => Bool) false false false false false false false true k
def eqK (k k' : IntKind) : Bool := IntKind.rec (motive := fun _ => IntKind → Bool) kI8 kI16 kI32 kI64 kU8 kU16 kU32 kU64 k k'
theorem eqK_eq {k k' : IntKind} (h : eqK k k' = true) : k = k' := by cases k <;> cases k' <;> first | rfl | cases h
def subNR1 (a b : Nat) (d : Nat) : Int := Nat.rec (motive := fun _ => Int) (.ofNat (Nat.sub a b)) (fun e _ => .negSucc e) d
def subNR (a b : Nat) : Int := subNR1 a b (Nat.sub b a)
theorem subNR_eq (a b : Nat) : subNR a b = (a : Int) - b := by
  unfold subNR
  cases h : Nat.sub b a with
  | zero =>
    have h : b - a = 0 := h
    show Int.ofNat (a - b) = _
    rw [Int.ofNat_eq_natCast]; omega
  | succ e =>
    have h : b - a = e + 1 := h
    show Int.negSucc e = _
    omega
def addI1 (a : Nat) (y : Int) : Int := Int.rec (motive := fun _ => Int) (fun b => .ofNat (Nat.add a b)) (fun b => subNR a (Nat.succ b)) y
def addI2 (a : Nat) (y : Int) : Int := Int.rec (motive := fun _ => Int) (fun b => subNR b (Nat.succ a)) (fun b => .negSucc (Nat.succ (Nat.add a b))) y
def addI (x y : Int) : Int := Int.rec (motive := fun _ => Int → Int) addI1 addI2 x y
theorem addI_eq (x y : Int) : addI x y = x + y := by
  cases x <;> cases y
  · rfl
  · rename_i a b; show subNR a (b + 1) = _; rw [subNR_eq]; simp only [Int.ofNat_eq_natCast]; omega
  · rename_i a b; show subNR b (a + 1) = _; rw [subNR_eq]; simp only [Int.ofNat_eq_natCast]; omega
  · rfl
def subI1 (a : Nat) (y : Int) : Int := Int.rec (motive := fun _ => Int) (fun b => subNR a b) (fun b => .ofNat (Nat.succ (Nat.add a b))) y
def subI2 (a : Nat) (y : Int) : Int := Int.rec (motive := fun _ => Int) (fun b => .negSucc (Nat.add a b)) (fun b => subNR b a) y
def subI (x y : Int) : Int := Int.rec (motive := fun _ => Int → Int) subI1 subI2 x y
theorem subI_eq (x y : Int) : subI x y = x - y := by
  cases x <;> cases y
  · rename_i a b; exact subNR_eq a b
  · rename_i a b; show ((a + b + 1 : Nat) : Int) = _; simp only [Int.ofNat_eq_natCast]; omega
  · rename_i a b; show Int.negSucc (a + b) = _; simp only [Int.ofNat_eq_natCast]; omega
  · rename_i a b; show subNR b a = _; rw [subNR_eq]; omega
def in64 (x : Int) : Bool := Int.rec (motive := fun _ => Bool) (fun n => Nat.ble n 9223372036854775807) (fun n => Nat.ble n 9223372036854775807) x
def wrap64R (x : Int) : Int := Bool.rec (motive := fun _ => Int) (IntKind.i64.wrap x) x (in64 x)
theorem wrap64R_eq (x : Int) : wrap64R x = IntKind.i64.wrap x := by
  unfold wrap64R
  cases h : in64 x with
  | false => rfl
  | true =>
    show x = _
    have hb : -9223372036854775808 ≤ x ∧ x ≤ 9223372036854775807 := by
      cases x with
      | ofNat n => have := Nat.le_of_ble_eq_true h; simp only [Int.ofNat_eq_natCast]; omega
      | negSucc n => have := Nat.le_of_ble_eq_true h; omega
    show x = (if (true && decide (x % (2 ^ 64 : Int) ≥ (2 ^ (64 - 1) : Int))) = true then x % (2 ^ 64 : Int) - (2 ^ 64 : Int) else x % (2 ^ 64 : Int))
    simp only [Bool.true_and, decide_eq_true_iff]
    have e1 : (2 ^ 64 : Int) = 18446744073709551616 := by decide
    have e2 : (2 ^ (64 - 1) : Int) = 9223372036854775808 := by decide
    rw [e1, e2]
    split <;> omega
def wrapR (k : IntKind) (x : Int) : Int := Bool.rec (motive := fun _ => Int) (k.wrap x) (wrap64R x) (kI64 k)
theorem wrapR_eq (k : IntKind) (x : Int) : wrapR k x = k.wrap x := by
  cases k <;> first | rfl | exact wrap64R_eq x
end Go.Ax
noncomputable section
namespace Go.Ax
open Go.RowKit
set_option linter.unusedVariables false
set_option linter.unusedSimpArgs false
def bnd (h : AV → Option AV) (o : Option AV) : Option AV := Option.rec (motive := fun _ => Option AV) none h o
theorem bnd_some {h : AV → Option AV} {o : Option AV} {r : AV} (e : bnd h o = some r) : ∃ a, o = some a ∧ h a = some r := by
  cases o with
  | none => cases e
  | some a => exact ⟨a, rfl, e⟩
def bndL (h : List AV → Option AV) (o : Option (List AV)) : Option AV := Option.rec (motive := fun _ => Option AV) none h o
theorem bndL_some {h : List AV → Option AV} {o : Option (List AV)} {r : AV} (e : bndL h o = some r) : ∃ a, o = some a ∧ h a = some r := by
  cases o with
  | none => cases e
  | some a => exact ⟨a, rfl, e⟩
def VOk (E : Env) (o : Oper) (b : VB) : Prop := ∀ f S a, b.v f S = some a → exec1 E f S o = .val a S
def failV : VB := ⟨fun _ _ => none⟩
theorem failV_ok {E : Env} {o : Oper} : VOk E o failV := fun f S a h => by cases h
def slowV (E : Env) (o : Oper) : VB := ⟨fun f S => OR.rec (motive := fun _ => Option AV) (fun a _ => some a) (fun _ => none) (fun _ _ _ => none) (fun _ _ _ _ => none) (fun _ _ => none) none (exec1R E f S o)⟩
theorem slowV_ok {E : Env} {o : Oper} (hl : isLook o = true) : VOk E o (slowV E o) := fun f S a h => by
  have h : OR.rec (motive := fun _ => Option AV) (fun a _ => some a) (fun _ => none) (fun _ _ _ => none) (fun _ _ _ _ => none) (fun _ _ => none) none (exec1R E f S o) = some a := h
  rw [exec1R_eq] at h
  rcases look_same (E := E) (f := f) (S := S) hl with ⟨b, hb⟩ | hb
  · rw [hb] at h
    have h : some b = some a := h
    injection h with h; subst h; exact hb
  · rw [hb] at h; cases h
def moveV (g : GB) : VB := ⟨fun f _ => g.g f⟩
/-- Loads. -/
def aggO (o : Option (List AV)) : Option AV := bndL (fun l => some (.agg l)) o
def cell1 (c : Cell) (off : Nat) : Option AV := Cell.rec (motive := fun _ => Nat → Option AV) (fun cs off => atR off cs) (fun _ _ => none) (fun _ _ => none) c off
def cellO1 (c : Option Cell) (off : Nat) : Option AV := Option.rec (motive := fun _ => Nat → Option AV) (fun _ => none) cell1 c off
def ld1 (S : St) (a : AV) : Option AV := PV.rec (motive := fun _ => St → Option AV) (fun id off S => cellO1 (S.mem.get id) off) (fun cs _ => atR 0 cs) (fun _ => none) (fun _ _ _ _ _ => none) (fun _ _ => none) (fun _ _ => none) (fun _ => none) (fun _ _ _ _ _ => none) a.pv S
theorem ld1_ok {P : Program} {t : TypeId} {S : St} {a x : AV} (ht : isAggT P t = some false) (h : ld1 S a = some x) : oLoad P S t a = some x := by
  unfold ld1 at h
  cases hp : a.pv with
  | p id off =>
    rw [hp] at h
    rw [pv_p hp]
    have h : cellO1 (S.mem.get id) off = some x := h
    cases hm : S.mem.get id with
    | none => rw [hm] at h; cases h
    | some c =>
      rw [hm] at h
      cases c with
      | box cs =>
        have h : atR off cs = some x := h
        rw [atR_eq] at h
        have hlt := (List.getElem?_eq_some_iff.1 h).1
        simp only [oLoad, behind, hm, if_pos (Nat.le_of_lt hlt), ht]
        rw [List.head?_drop]; exact h
      | tip m => cases h
      | mp es => cases h
  | e cs =>
    rw [hp] at h
    rw [pv_e hp]
    have h : atR 0 cs = some x := h
    rw [atR_eq] at h
    simp only [oLoad, behind, ht]
    rw [List.head?_eq_getElem?]; exact h
  | n => rw [hp] at h; cases h
  | l => rw [hp] at h; cases h
  | a => rw [hp] at h; cases h
  | t => rw [hp] at h; cases h
  | no => rw [hp] at h; cases h
  | w => rw [hp] at h; cases h
def cutR (off n : Nat) (cs : List AV) : Option AV := bndL (fun r => aggO (takeR n r)) (dropR off cs)
theorem cutR_some {off n : Nat} {cs : List AV} {x : AV} (h : cutR off n cs = some x) : off + n ≤ cs.length ∧ x = .agg ((cs.drop off).take n) := by
  obtain ⟨r, h1, h2⟩ := bndL_some h
  obtain ⟨q, h3, h4⟩ := bndL_some h2
  obtain ⟨k1, rfl⟩ := dropR_some _ _ _ h1
  obtain ⟨k2, rfl⟩ := takeR_some _ _ _ h3
  injection h4 with h4
  exact ⟨by simp at k2; omega, h4.symm⟩
def cellN (n : Nat) (c : Cell) (off : Nat) : Option AV := Cell.rec (motive := fun _ => Nat → Nat → Option AV) (fun cs n off => cutR off n cs) (fun _ _ _ => none) (fun _ _ _ => none) c n off
def cellON (n : Nat) (c : Option Cell) (off : Nat) : Option AV := Option.rec (motive := fun _ => Nat → Nat → Option AV) (fun _ _ => none) (fun c n off => cellN n c off) c n off
def ldN (n : Nat) (S : St) (a : AV) : Option AV := PV.rec (motive := fun _ => Nat → St → Option AV) (fun id off n S => cellON n (S.mem.get id) off) (fun cs n _ => cutR 0 n cs) (fun _ _ => none) (fun _ _ _ _ _ _ => none) (fun _ _ _ => none) (fun _ _ _ => none) (fun _ _ => none) (fun _ _ _ _ _ _ => none) a.pv n S
theorem ldN_ok {P : Program} {t : TypeId} {n : Nat} {S : St} {a x : AV} (ht : isAggT P t = some true) (hs : sizeT P t = some n) (h : ldN n S a = some x) : oLoad P S t a = some x := by
  unfold ldN at h
  cases hp : a.pv with
  | p id off =>
    rw [hp] at h
    rw [pv_p hp]
    have h : cellON n (S.mem.get id) off = some x := h
    cases hm : S.mem.get id with
    | none => rw [hm] at h; cases h
    | some c =>
      rw [hm] at h
      cases c with
      | box cs =>
        have h : cutR off n cs = some x := h
        obtain ⟨h1, rfl⟩ := cutR_some h
        simp only [oLoad, behind, hm, if_pos (show off ≤ cs.length by omega), ht, hs, List.length_drop]
        rw [if_pos (by omega)]
      | tip m => cases h
      | mp es => cases h
  | e cs =>
    rw [hp] at h
    rw [pv_e hp]
    have h : cutR 0 n cs = some x := h
    obtain ⟨h1, rfl⟩ := cutR_some h
    simp only [oLoad, behind, ht, hs]
    rw [if_pos (by omega)]; rfl
  | n => rw [hp] at h; cases h
  | l => rw [hp] at h; cases h
  | a => rw [hp] at h; cases h
  | t => rw [hp] at h; cases h
  | no => rw [hp] at h; cases h
  | w => rw [hp] at h; cases h
def load1V (g : GB) : VB := ⟨fun f S => bnd (ld1 S) (g.g f)⟩
def loadNV (n : Nat) (g : GB) : VB := ⟨fun f S => bnd (ldN n S) (g.g f)⟩
def loadV (P : Program) (t : TypeId) (g : GB) : VB := match isAggT P t with
  | some false => load1V g
  | some true => match sizeT P t with
    | some n => loadNV n g
    | none => failV
  | none => failV
theorem loadV_ok {E : Env} {o : Oper} {t : TypeId} {x : Operand} (ho : o.op = .load t x) : VOk E o (loadV E.P t (opG E.G x)) := fun f S a h => by
  unfold loadV at h
  simp only [exec1, ho]
  split at h
  · rename_i ht
    obtain ⟨b, h1, h2⟩ := bnd_some h
    rw [opG_ok] at h1
    rw [h1]; simp only
    rw [ld1_ok ht h2]; rfl
  · rename_i ht
    split at h
    · rename_i n hs
      obtain ⟨b, h1, h2⟩ := bnd_some h
      rw [opG_ok] at h1
      rw [h1]; simp only
      rw [ldN_ok ht hs h2]; rfl
    · cases h
  · cases h
/-- Parts of a struct. -/
def fld1 (off : Nat) (a : AV) : Option AV := PV.rec (motive := fun _ => Nat → Option AV) (fun _ _ _ => none) (fun _ _ => none) (fun _ => none) (fun _ _ _ _ _ => none) (fun cs off => atR off cs) (fun _ _ => none) (fun _ => none) (fun _ _ _ _ _ => none) a.pv off
def fldN (off n : Nat) (a : AV) : Option AV := PV.rec (motive := fun _ => Nat → Nat → Option AV) (fun _ _ _ _ => none) (fun _ _ _ => none) (fun _ _ => none) (fun _ _ _ _ _ _ => none) (fun cs off n => cutR off n cs) (fun _ _ _ => none) (fun _ _ => none) (fun _ _ _ _ _ _ => none) a.pv off n
theorem fld1_some {off : Nat} {a x : AV} (h : fld1 off a = some x) : ∃ cs, a = .agg cs ∧ cs[off]? = some x := by
  unfold fld1 at h
  cases hp : a.pv with
  | a cs => rw [hp] at h; exact ⟨cs, pv_a hp, (atR_eq off cs).symm.trans h⟩
  | p => rw [hp] at h; cases h
  | e => rw [hp] at h; cases h
  | n => rw [hp] at h; cases h
  | l => rw [hp] at h; cases h
  | t => rw [hp] at h; cases h
  | no => rw [hp] at h; cases h
  | w => rw [hp] at h; cases h
theorem fldN_some {off n : Nat} {a x : AV} (h : fldN off n a = some x) : ∃ cs, a = .agg cs ∧ off + n ≤ cs.length ∧ x = .agg ((cs.drop off).take n) := by
  unfold fldN at h
  cases hp : a.pv with
  | a cs => rw [hp] at h; exact ⟨cs, pv_a hp, cutR_some h⟩
  | p => rw [hp] at h; cases h
  | e => rw [hp] at h; cases h
  | n => rw [hp] at h; cases h
  | l => rw [hp] at h; cases h
  | t => rw [hp] at h; cases h
  | no => rw [hp] at h; cases h
  | w => rw [hp] at h; cases h
def field1V (off : Nat) (g : GB) : VB := ⟨fun f _ => bnd (fld1 off) (g.g f)⟩
def fieldNV (off n : Nat) (g : GB) : VB := ⟨fun f _ => bnd (fldN off n) (g.g f)⟩
def fieldV (P : Program) (t : TypeId) (i : Nat) (g : GB) : VB := match fieldsOf P t with
  | some fs => match fs[i]? with
    | some fd => match isAggT P fd.type with
      | some true => match sizeT P fd.type with
        | some n => fieldNV fd.offset n g
        | none => failV
      | some false => field1V fd.offset g
      | none => failV
    | none => failV
  | none => failV
theorem fieldV_ok {E : Env} {o : Oper} {t : TypeId} {i : Nat} {x : Operand} (ho : o.op = .field t x i) : VOk E o (fieldV E.P t i (opG E.G x)) := fun f S a h => by
  unfold fieldV at h
  simp only [exec1, ho]
  split at h
  · rename_i fs hfs
    split at h
    · rename_i fd hfd
      split at h
      · rename_i ht
        split at h
        · rename_i n hs
          obtain ⟨b, h1, h2⟩ := bnd_some h
          rw [opG_ok] at h1
          obtain ⟨cs, rfl, h3, rfl⟩ := fldN_some h2
          rw [h1]
          simp only [oField, hfs, hfd, oPart, ht, hs, if_pos h3, ofOpt]
        · cases h
      · rename_i ht
        obtain ⟨b, h1, h2⟩ := bnd_some h
        rw [opG_ok] at h1
        obtain ⟨cs, rfl, h3⟩ := fld1_some h2
        rw [h1]
        simp only [oField, hfs, hfd, oPart, ht, h3, ofOpt]
      · cases h
    · cases h
  · cases h
def shiftR (n : Nat) (a : AV) : Option AV := PV.rec (motive := fun _ => Nat → Option AV) (fun id off n => some (.ptr id (Nat.add off n))) (fun cs n => bndL (fun r => some (.ep r)) (dropR n cs)) (fun _ => none) (fun _ _ _ _ _ => none) (fun _ _ => none) (fun _ _ => none) (fun _ => none) (fun _ _ _ _ _ => none) a.pv n
theorem shiftR_some {n : Nat} {a x : AV} (h : shiftR n a = some x) : shift a n = some x := by
  unfold shiftR at h
  cases hp : a.pv with
  | p id off => rw [hp] at h; rw [pv_p hp]; exact h
  | e cs =>
    rw [hp] at h; rw [pv_e hp]
    obtain ⟨r, h1, h2⟩ := bndL_some h
    obtain ⟨k1, rfl⟩ := dropR_some _ _ _ h1
    simp only [shift, if_pos k1]; exact h2
  | a => rw [hp] at h; cases h
  | n => rw [hp] at h; cases h
  | l => rw [hp] at h; cases h
  | t => rw [hp] at h; cases h
  | no => rw [hp] at h; cases h
  | w => rw [hp] at h; cases h
def shiftV (off : Nat) (g : GB) : VB := ⟨fun f _ => bnd (shiftR off) (g.g f)⟩
def faddrV (P : Program) (s : TypeId) (i : Nat) (g : GB) : VB := match fieldsOf P s with
  | some fs => match fs[i]? with
    | some fd => match sizeT P fd.type with
      | some (_ + 1) => shiftV fd.offset g
      | _ => failV
    | none => failV
  | none => failV
theorem faddrV_ok {E : Env} {o : Oper} {t : TypeId} {i : Nat} {x : Operand} (ho : o.op = .fieldAddr t x i) : VOk E o (faddrV E.P t i (opG E.G x)) := fun f S a h => by
  unfold faddrV at h
  simp only [exec1, ho]
  split at h
  · rename_i fs hfs
    split at h
    · rename_i fd hfd
      split at h
      · rename_i n hs
        obtain ⟨b, h1, h2⟩ := bnd_some h
        rw [opG_ok] at h1
        rw [h1]
        simp only [oFieldAddr, hfs, hfd, hs, shiftR_some h2, ofOpt]
      · cases h
    · cases h
  · cases h
def okFn (fn : Fn) : Bool := match fn with
  | .func _ => true
  | _ => false
def okN (a : AV) : Bool := AV.rec (motive_1 := fun _ => Bool) (motive_2 := fun _ => Unit) (fun _ => false) false (fun _ _ => true) (fun _ _ => true) false (fun _ _ _ _ _ => false) false (fun _ => false) (fun fn _ _ _ _ => okFn fn) (fun _ _ _ => true) (fun _ _ => false) (fun _ _ => false) (fun _ _ _ _ => false) () (fun _ _ _ _ => ()) a
def nilX (a : AV) : Option AV := Bool.rec (motive := fun _ => Option AV) none (some a) (okN a)
def nilV (g : GB) : VB := ⟨fun f _ => bnd nilX (g.g f)⟩
theorem nilV_ok {E : Env} {o : Oper} {x : Operand} (ho : o.op = .nilCheck x) : VOk E o (nilV (opG E.G x)) := fun f S a h => by
  obtain ⟨b, h1, h2⟩ := bnd_some h
  rw [opG_ok] at h1
  simp only [exec1, ho, h1]
  cases b with
  | fn fn x y => cases fn with
    | func k => injection h2 with h2; subst h2; rfl
    | _ => cases h2
  | ptr => injection h2 with h2; subst h2; rfl
  | ep => injection h2 with h2; subst h2; rfl
  | iface => injection h2 with h2; subst h2; rfl
  | _ => cases h2
/-- Elements of a row. -/
def aggCells (a : AV) : Option (List AV) := PV.rec (motive := fun _ => Option (List AV)) (fun _ _ => none) (fun _ => none) none (fun _ _ _ _ => none) (fun cs => some cs) (fun _ => none) none (fun _ _ _ _ => none) a.pv
def cellsR (a : AV) : List AV := Option.rec (motive := fun _ => List AV) [a] (fun cs => cs) (aggCells a)
theorem cellsR_eq (a : AV) : cellsR a = a.cells := by cases a <;> rfl
def epO (o : Option AV) : Option AV := bnd (fun x => some (.ep (cellsR x))) o
def rowAt (n : Nat) (a : AV) (j : Nat) : Option AV := PV.rec (motive := fun _ => Nat → Nat → Option AV) (fun _ _ _ _ => none) (fun _ _ _ => none) (fun _ _ => none) (fun _ _ sz es n j => Bool.rec (motive := fun _ => Option AV) none (epO (atR j es)) (Nat.beq n sz)) (fun _ _ _ => none) (fun _ _ _ => none) (fun _ _ => none) (fun id off len sz n j => Bool.rec (motive := fun _ => Option AV) none (Bool.rec (motive := fun _ => Option AV) none (some (.ptr id (Nat.add off (Nat.mul j sz)))) (Nat.ble (Nat.succ j) len)) (Nat.beq n sz)) a.pv n j
theorem rowAt_some {n j : Nat} {a x : AV} (h : rowAt n a j = some x) : (∃ tok off es y, a = .sl tok off n es ∧ es[j]? = some y ∧ x = .ep y.cells) ∨ (∃ id off len, a = .bs id off len n ∧ j < len ∧ x = .ptr id (off + j * n)) := by
  unfold rowAt at h
  cases hp : a.pv with
  | l tok off sz es =>
    rw [hp] at h
    have h : Bool.rec (motive := fun _ => Option AV) none (epO (atR j es)) (Nat.beq n sz) = some x := h
    cases hb : Nat.beq n sz with
    | false => rw [hb] at h; cases h
    | true =>
      rw [hb] at h
      obtain ⟨y, h1, h2⟩ := bnd_some h
      rw [atR_eq] at h1
      have := Nat.eq_of_beq_eq_true hb
      subst this
      injection h2 with h2
      rw [cellsR_eq] at h2
      exact .inl ⟨tok, off, es, y, pv_l hp, h1, h2.symm⟩
  | w id off len sz =>
    rw [hp] at h
    have h : Bool.rec (motive := fun _ => Option AV) none (Bool.rec (motive := fun _ => Option AV) none (some (.ptr id (Nat.add off (Nat.mul j sz)))) (Nat.ble (Nat.succ j) len)) (Nat.beq n sz) = some x := h
    cases hb : Nat.beq n sz with
    | false => rw [hb] at h; cases h
    | true =>
      have := Nat.eq_of_beq_eq_true hb
      subst this
      rw [hb] at h
      cases hc : Nat.ble (Nat.succ j) len with
      | false => rw [hc] at h; cases h
      | true =>
        rw [hc] at h
        injection h with h
        exact .inr ⟨id, off, len, pv_w hp, Nat.le_of_ble_eq_true hc, h.symm⟩
  | p => rw [hp] at h; cases h
  | e => rw [hp] at h; cases h
  | n => rw [hp] at h; cases h
  | a => rw [hp] at h; cases h
  | t => rw [hp] at h; cases h
  | no => rw [hp] at h; cases h
def natOf (s : SV) : Option Nat := SV.rec (motive := fun _ => Option Nat) (fun _ => none) (fun _ x => Int.rec (motive := fun _ => Option Nat) (fun n => some n) (fun _ => none) x) (fun _ => none) none s
theorem natOf_some {a : AV} {j : Nat} (h : natOf a.sv = some j) : ∃ k, a = .v (.int k (j : Int)) := by
  cases hs : a.sv with
  | i k x =>
    rw [hs] at h
    cases x with
    | ofNat n => injection h with h; subst h; exact ⟨k, sv_i hs⟩
    | negSucc n => cases h
  | b => rw [hs] at h; cases h
  | s => rw [hs] at h; cases h
  | no => rw [hs] at h; cases h
def bndN (h : Nat → Option AV) (o : Option Nat) : Option AV := Option.rec (motive := fun _ => Option AV) none h o
theorem bndN_some {h : Nat → Option AV} {o : Option Nat} {r : AV} (e : bndN h o = some r) : ∃ a, o = some a ∧ h a = some r := by
  cases o with
  | none => cases e
  | some a => exact ⟨a, rfl, e⟩
def iaddrS (n : Nat) (gx gi : GB) : VB := ⟨fun f _ => bnd (fun a => bnd (fun b => bndN (rowAt n a) (natOf b.sv)) (gi.g f)) (gx.g f)⟩
def arrAt (len n : Nat) (a : AV) (j : Nat) : Option AV := Bool.rec (motive := fun _ => Option AV) none (shiftR (Nat.mul j n) a) (Nat.ble (Nat.succ j) len)
def iaddrA (len n : Nat) (gx gi : GB) : VB := ⟨fun f _ => bnd (fun a => bnd (fun b => bndN (arrAt len n a) (natOf b.sv)) (gi.g f)) (gx.g f)⟩
def iaddrV (P : Program) (t : TypeId) (gx gi : GB) : VB := match elemT P t with
  | some (none, e) => match sizeT P e with
    | some n => iaddrS n gx gi
    | none => failV
  | some (some len, e) => match sizeT P e with
    | some n => iaddrA len n gx gi
    | none => failV
  | none => failV
theorem iaddrV_ok {E : Env} {o : Oper} {t : TypeId} {x i : Operand} (ho : o.op = .indexAddr t x i) : VOk E o (iaddrV E.P t (opG E.G x) (opG E.G i)) := fun f S a h => by
  unfold iaddrV at h
  simp only [exec1, ho]
  split at h
  · rename_i e he
    split at h
    · rename_i n hs
      obtain ⟨b, h1, h2⟩ := bnd_some h
      obtain ⟨c, h3, h4⟩ := bnd_some h2
      obtain ⟨j, h5, h6⟩ := bndN_some h4
      rw [opG_ok] at h1 h3
      obtain ⟨k, rfl⟩ := natOf_some h5
      rw [h1, h3]
      rcases rowAt_some h6 with ⟨tok, off, es, y, rfl, h7, rfl⟩ | ⟨id, off, len, rfl, h7, rfl⟩
      · simp only [oIndexAddr, he, hs, if_pos (show (0 : Int) ≤ (j : Int) by omega), Int.toNat_natCast, h7, beq_self_eq_true, if_true, ofOpt]
      · simp only [oIndexAddr, he, hs, if_pos (show (0 : Int) ≤ (j : Int) by omega), Int.toNat_natCast, beq_self_eq_true, Bool.true_and, decide_eq_true_eq, if_pos (show (j : Int) < (len : Int) by omega), ofOpt]
    · cases h
  · rename_i len e he
    split at h
    · rename_i n hs
      obtain ⟨b, h1, h2⟩ := bnd_some h
      obtain ⟨c, h3, h4⟩ := bnd_some h2
      obtain ⟨j, h5, h6⟩ := bndN_some h4
      rw [opG_ok] at h1 h3
      obtain ⟨k, rfl⟩ := natOf_some h5
      unfold arrAt at h6
      cases hb : Nat.ble (Nat.succ j) len with
      | false => rw [hb] at h6; cases h6
      | true =>
        rw [hb] at h6
        have h7 := shiftR_some h6
        have hlt : (j : Int) < (len : Int) := by have := Nat.le_of_ble_eq_true hb; omega
        rw [h1, h3]
        simp only [oIndexAddr, he, hs, if_pos (show (0 : Int) ≤ (j : Int) by omega), Int.toNat_natCast, if_pos hlt]
        have h8 : shift b (j * n) = some a := h7
        rw [h8]; rfl
    · cases h
  · cases h
def byteO (o : Option UInt8) : Option AV := Option.rec (motive := fun _ => Option AV) none (fun b => some (.v (.int .u8 (.ofNat b.toNat)))) o
def strAt (a : AV) (j : Nat) : Option AV := SV.rec (motive := fun _ => Nat → Option AV) (fun _ _ => none) (fun _ _ _ => none) (fun l j => byteO (atR j l)) (fun _ => none) a.sv j
def indexS (gx gi : GB) : VB := ⟨fun f _ => bnd (fun a => bnd (fun b => bndN (strAt a) (natOf b.sv)) (gi.g f)) (gx.g f)⟩
def indexV (E : Env) (o : Oper) (t : TypeId) (gx gi : GB) : VB := match E.P.underlying t with
  | some .string => indexS gx gi
  | _ => slowV E o
theorem indexV_ok {E : Env} {o : Oper} {t : TypeId} {x i : Operand} (ho : o.op = .index t x i) : VOk E o (indexV E o t (opG E.G x) (opG E.G i)) := by
  unfold indexV
  split
  · rename_i ht
    intro f S a h
    simp only [exec1, ho]
    obtain ⟨b, h1, h2⟩ := bnd_some h
    obtain ⟨c, h3, h4⟩ := bnd_some h2
    obtain ⟨j, h5, h6⟩ := bndN_some h4
    rw [opG_ok] at h1 h3
    obtain ⟨k, rfl⟩ := natOf_some h5
    unfold strAt at h6
    cases hs : b.sv with
    | s l =>
      rw [hs] at h6
      obtain ⟨s, rfl, rfl⟩ := sv_s hs
      have h6 : byteO (atR j s.data.toList) = some a := h6
      rw [atR_eq] at h6
      cases hq : s.data.toList[j]? with
      | none => rw [hq] at h6; cases h6
      | some u =>
        rw [hq] at h6
        injection h6 with h6; subst h6
        rw [h1, h3]
        simp only [fastIndex, ht, if_pos (show (0 : Int) ≤ (j : Int) by omega), Int.toNat_natCast, hq]
        rfl
    | b => rw [hs] at h6; cases h6
    | i => rw [hs] at h6; cases h6
    | no => rw [hs] at h6; cases h6
  · exact slowV_ok (by simp [isLook, ho])
/-- Two numbers, two texts. -/
def ib2 (h : IntKind → Int → Int → AV) (k : IntKind) (x : Int) (s : SV) : Option AV := SV.rec (motive := fun _ => Option AV) (fun _ => none) (fun k' y => Bool.rec (motive := fun _ => Option AV) none (some (h k x y)) (eqK k k')) (fun _ => none) none s
def ib (h : IntKind → Int → Int → AV) (a b : AV) : Option AV := SV.rec (motive := fun _ => SV → Option AV) (fun _ _ => none) (ib2 h) (fun _ _ => none) (fun _ => none) a.sv b.sv
theorem ib_some {h : IntKind → Int → Int → AV} {a b r : AV} (e : ib h a b = some r) : ∃ k x y, a = .v (.int k x) ∧ b = .v (.int k y) ∧ r = h k x y := by
  unfold ib at e
  cases ha : a.sv with
  | i k x =>
    rw [ha] at e
    have e : ib2 h k x b.sv = some r := e
    unfold ib2 at e
    cases hb : b.sv with
    | i k' y =>
      rw [hb] at e
      have e : Bool.rec (motive := fun _ => Option AV) none (some (h k x y)) (eqK k k') = some r := e
      cases hk : eqK k k' with
      | false => rw [hk] at e; cases e
      | true =>
        rw [hk] at e
        have e3 : some (h k x y) = some r := e
        injection e3 with e4
        have hkk := eqK_eq hk
        subst hkk
        exact ⟨k, x, y, sv_i ha, sv_i hb, e4.symm⟩
    | b => rw [hb] at e; cases e
    | s => rw [hb] at e; cases e
    | no => rw [hb] at e; cases e
  | b => rw [ha] at e; cases e
  | s => rw [ha] at e; cases e
  | no => rw [ha] at e; cases e
def sb2 (h : List UInt8 → List UInt8 → AV) (l : List UInt8) (s : SV) : Option AV := SV.rec (motive := fun _ => Option AV) (fun _ => none) (fun _ _ => none) (fun m => some (h l m)) none s
def isb (h : IntKind → Int → Int → AV) (h' : List UInt8 → List UInt8 → AV) (a b : AV) : Option AV := SV.rec (motive := fun _ => SV → Option AV) (fun _ _ => none) (ib2 h) (sb2 h') (fun _ => none) a.sv b.sv
theorem isb_some {h : IntKind → Int → Int → AV} {h' : List UInt8 → List UInt8 → AV} {a b r : AV} (e : isb h h' a b = some r) : (∃ k x y, a = .v (.int k x) ∧ b = .v (.int k y) ∧ r = h k x y) ∨ ∃ s u : ByteArray, a = .v (.string s) ∧ b = .v (.string u) ∧ r = h' s.data.toList u.data.toList := by
  unfold isb at e
  cases ha : a.sv with
  | i k x =>
    rw [ha] at e
    exact .inl (ib_some (h := h) (by unfold ib; rw [ha]; exact e))
  | s l =>
    rw [ha] at e
    have e : sb2 h' l b.sv = some r := e
    unfold sb2 at e
    cases hb : b.sv with
    | s m =>
      rw [hb] at e
      injection e with e
      obtain ⟨s, rfl, rfl⟩ := sv_s ha
      obtain ⟨u, rfl, rfl⟩ := sv_s hb
      exact .inr ⟨s, u, rfl, rfl, e.symm⟩
    | b => rw [hb] at e; cases e
    | i => rw [hb] at e; cases e
    | no => rw [hb] at e; cases e
  | b => rw [ha] at e; cases e
  | no => rw [ha] at e; cases e
def hAdd (k : IntKind) (x y : Int) : AV := .v (.int k (wrapR k (addI x y)))
def hSub (k : IntKind) (x y : Int) : AV := .v (.int k (wrapR k (subI x y)))
def hEql (_ : IntKind) (x y : Int) : AV := .v (.bool (eqI x y))
def hNeq (_ : IntKind) (x y : Int) : AV := .v (.bool (notR (eqI x y)))
def hLss (_ : IntKind) (x y : Int) : AV := .v (.bool (ltI x y))
def hGtr (_ : IntKind) (x y : Int) : AV := .v (.bool (ltI y x))
def hLeq (_ : IntKind) (x y : Int) : AV := .v (.bool (notR (ltI y x)))
def hGeq (_ : IntKind) (x y : Int) : AV := .v (.bool (notR (ltI x y)))
def hEqS (l m : List UInt8) : AV := .v (.bool (eqBytes l m))
def hNeS (l m : List UInt8) : AV := .v (.bool (notR (eqBytes l m)))
def bin2 (h : AV → AV → Option AV) (sl : VB) (gx gy : GB) : VB := ⟨fun f S => bnd (fun a => bnd (fun b => Option.rec (motive := fun _ => Option AV) (sl.v f S) (fun r => some r) (h a b)) (gy.g f)) (gx.g f)⟩
def binV (E : Env) (o : Oper) (op : BinOp) (gx gy : GB) : VB := match op with
  | .add => bin2 (ib hAdd) (slowV E o) gx gy
  | .sub => bin2 (ib hSub) (slowV E o) gx gy
  | .lss => bin2 (ib hLss) (slowV E o) gx gy
  | .gtr => bin2 (ib hGtr) (slowV E o) gx gy
  | .leq => bin2 (ib hLeq) (slowV E o) gx gy
  | .geq => bin2 (ib hGeq) (slowV E o) gx gy
  | .eql => bin2 (isb hEql hEqS) (slowV E o) gx gy
  | .neq => bin2 (isb hNeq hNeS) (slowV E o) gx gy
  | _ => slowV E o
theorem bin2_ok {E : Env} {o : Oper} {op : BinOp} {t u : TypeId} {x y : Operand} {h : AV → AV → Option AV} (ho : o.op = .binOp op t x y u) (hh : ∀ a b r, h a b = some r → fastBin op a b = some r) : VOk E o (bin2 h (slowV E o) (opG E.G x) (opG E.G y)) := fun f S a e => by
  obtain ⟨b, h1, h2⟩ := bnd_some e
  obtain ⟨c, h3, h4⟩ := bnd_some h2
  cases hq : h b c with
  | none =>
    rw [hq] at h4
    exact slowV_ok (by simp [isLook, ho]) f S a h4
  | some r =>
    rw [hq] at h4
    injection h4 with h4; subst h4
    have hf := hh b c _ hq
    rw [opG_ok] at h1 h3
    simp only [exec1, ho, h1, h3, neNil_fast hf, hf]
    rfl
theorem not_lt_le (x y : Int) : (!decide (y < x)) = decide (x ≤ y) := by
  by_cases h : y < x
  · rw [decide_eq_true h, decide_eq_false (by omega)]; rfl
  · rw [decide_eq_false h, decide_eq_true (by omega)]; rfl
theorem binV_ok {E : Env} {o : Oper} {op : BinOp} {t u : TypeId} {x y : Operand} (ho : o.op = .binOp op t x y u) : VOk E o (binV E o op (opG E.G x) (opG E.G y)) := by
  unfold binV
  split
  · refine bin2_ok ho fun a b r h => ?_
    obtain ⟨k, x, y, rfl, rfl, rfl⟩ := ib_some h
    simp [fastBin, hAdd, wrapR_eq, addI_eq]
  · refine bin2_ok ho fun a b r h => ?_
    obtain ⟨k, x, y, rfl, rfl, rfl⟩ := ib_some h
    simp [fastBin, hSub, wrapR_eq, subI_eq]
  · refine bin2_ok ho fun a b r h => ?_
    obtain ⟨k, x, y, rfl, rfl, rfl⟩ := ib_some h
    simp [fastBin, hLss, ltI_eq]
  · refine bin2_ok ho fun a b r h => ?_
    obtain ⟨k, x, y, rfl, rfl, rfl⟩ := ib_some h
    simp [fastBin, hGtr, ltI_eq]
  · refine bin2_ok ho fun a b r h => ?_
    obtain ⟨k, x, y, rfl, rfl, rfl⟩ := ib_some h
    simp only [fastBin, hLeq, ltI_eq, notR_eq, not_lt_le, if_true]
  · refine bin2_ok ho fun a b r h => ?_
    obtain ⟨k, x, y, rfl, rfl, rfl⟩ := ib_some h
    simp only [fastBin, hGeq, ltI_eq, notR_eq, not_lt_le, if_true]
  · refine bin2_ok ho fun a b r h => ?_
    rcases isb_some h with ⟨k, x, y, rfl, rfl, rfl⟩ | ⟨s, u, rfl, rfl, rfl⟩
    · simp [fastBin, hEql, eqI_eq]
    · simp [fastBin, hEqS]
  · refine bin2_ok ho fun a b r h => ?_
    rcases isb_some h with ⟨k, x, y, rfl, rfl, rfl⟩ | ⟨s, u, rfl, rfl, rfl⟩
    · simp only [fastBin, hNeq, eqI_eq, notR_eq, if_true]; rfl
    · simp only [fastBin, hNeS, notR_eq]
  · exact slowV_ok (by simp [isLook, ho])
/-- The rest. -/
def tupAt (i : Nat) (a : AV) : Option AV := PV.rec (motive := fun _ => Nat → Option AV) (fun _ _ _ => none) (fun _ _ => none) (fun _ => none) (fun _ _ _ _ _ => none) (fun _ _ => none) (fun cs i => atR i cs) (fun _ => none) (fun _ _ _ _ _ => none) a.pv i
def extrV (i : Nat) (g : GB) : VB := ⟨fun f _ => bnd (tupAt i) (g.g f)⟩
theorem extrV_ok {E : Env} {o : Oper} {x : Operand} {i : Nat} (ho : o.op = .extract x i) : VOk E o (extrV i (opG E.G x)) := fun f S a h => by
  obtain ⟨b, h1, h2⟩ := bnd_some h
  rw [opG_ok] at h1
  unfold tupAt at h2
  cases hp : b.pv with
  | t cs =>
    rw [hp] at h2
    have h2 : atR i cs = some a := h2
    rw [atR_eq] at h2
    rw [pv_t hp] at h1
    simp only [exec1, ho, h1, oExtract, h2, ofOpt]
  | p => rw [hp] at h2; cases h2
  | e => rw [hp] at h2; cases h2
  | n => rw [hp] at h2; cases h2
  | l => rw [hp] at h2; cases h2
  | a => rw [hp] at h2; cases h2
  | no => rw [hp] at h2; cases h2
  | w => rw [hp] at h2; cases h2
def makeIB (t : TypeId) (g : GB) : VB := ⟨fun f _ => bnd (fun a => some (.iface t a)) (g.g f)⟩
def makeIV (P : Program) (t : TypeId) (g : GB) : VB := match P.underlying t with
  | some (.interface _) => failV
  | some _ => makeIB t g
  | none => failV
theorem makeIV_ok {E : Env} {o : Oper} {x : Operand} {t : TypeId} (ho : o.op = .makeInterface t x) : VOk E o (makeIV E.P t (opG E.G x)) := by
  unfold makeIV
  split
  · exact failV_ok
  · rename_i d hne ht
    intro f S a h
    obtain ⟨b, h1, h2⟩ := bnd_some h
    rw [opG_ok] at h1
    injection h2 with h2; subst h2
    simp only [exec1, ho, h1, oMakeI, ht]
    cases d with
    | interface ms => exact (hne ms rfl).elim
    | _ => rfl
  · exact failV_ok
def pick1 (a b : Option AV) (s : SV) : Option AV := SV.rec (motive := fun _ => Option AV → Option AV → Option AV) (fun c a b => Bool.rec (motive := fun _ => Option AV) b a c) (fun _ _ _ _ => none) (fun _ _ _ => none) (fun _ _ => none) s a b
def pickV (gc ga gb : GB) : VB := ⟨fun f _ => bnd (fun c => pick1 (ga.g f) (gb.g f) c.sv) (gc.g f)⟩
theorem pickV_ok {E : Env} {o : Oper} {c x y : Operand} (ho : o.op = .pick c x y) : VOk E o (pickV (opG E.G c) (opG E.G x) (opG E.G y)) := fun f S a h => by
  obtain ⟨b, h1, h2⟩ := bnd_some h
  rw [opG_ok] at h1
  rw [opG_ok, opG_ok] at h2
  unfold pick1 at h2
  cases hs : b.sv with
  | b c =>
    rw [hs] at h2
    rw [sv_b hs] at h1
    simp only [exec1, ho, h1]
    cases c with
    | true => have h2 : evalO E.G f x = some a := h2; simp only [h2, ofOpt]
    | false => have h2 : evalO E.G f y = some a := h2; simp only [h2, ofOpt]
  | i => rw [hs] at h2; cases h2
  | s => rw [hs] at h2; cases h2
  | no => rw [hs] at h2; cases h2
end Go.Ax
noncomputable section
namespace Go.Ax
open Go.RowKit
set_option linter.unusedVariables false
set_option linter.unusedSimpArgs false
/-- Structs and rows built of parts. -/
structure PB where
  off : Nat
  size : Nat
  g : GB
def noTupR (a : AV) : Bool := PV.rec (motive := fun _ => Bool) (fun _ _ => true) (fun _ => true) true (fun _ _ _ _ => true) (fun _ => true) (fun _ => false) true (fun _ _ _ _ => true) a.pv
theorem noTupR_eq (a : AV) : noTupR a = a.noTup := by cases a <;> rfl
def okPart (a : AV) (size : Nat) : Bool := Bool.rec (motive := fun _ => Bool) false (Nat.beq (lenR (cellsR a)) size) (noTupR a)
theorem okPart_true {a : AV} {size : Nat} (h : okPart a size = true) : a.noTup = true ∧ a.cells.length = size := by
  unfold okPart at h
  rw [noTupR_eq, lenR_eq, cellsR_eq] at h
  cases hn : a.noTup with
  | false => rw [hn] at h; cases h
  | true => rw [hn] at h; exact ⟨rfl, Nat.eq_of_beq_eq_true h⟩
def fill1 (off size : Nat) (ih : List AV → Option (List AV)) (cs : List AV) (a : AV) : Option (List AV) := Bool.rec (motive := fun _ => Option (List AV)) none (Option.rec (motive := fun _ => Option (List AV)) none ih (overAtR off (cellsR a) cs)) (okPart a size)
def buildL (l : List PB) (f : T AV) : List AV → Option (List AV) := List.rec (motive := fun _ => List AV → Option (List AV)) (fun cs => some cs) (fun p _ ih cs => Option.rec (motive := fun _ => Option (List AV)) none (fill1 p.off p.size ih cs) (p.g.g f)) l
def placesL (G : Gl) (pl : List (Nat × Nat)) : List (Nat × Operand) → Option (List PB)
  | [] => some []
  | (i, x) :: r => match pl[i]?, placesL G pl r with
    | some (off, size), some l => some (⟨off, size, opG G x⟩ :: l)
    | _, _ => none
theorem buildL_ok {G : Gl} {pl : List (Nat × Nat)} {f : T AV} : ∀ {parts : List (Nat × Operand)} {l : List PB} {cs r : List AV}, placesL G pl parts = some l → buildL l f cs = some r → ∃ ps, partsA G f parts = some ps ∧ fillA (fun i => pl[i]?) cs ps = some r
  | [], l, cs, r, h, hb => by
    injection h with h; subst h
    injection hb with hb; subst hb
    exact ⟨[], rfl, rfl⟩
  | (i, x) :: rest, l, cs, r, h, hb => by
    unfold placesL at h
    split at h
    · rename_i off size l' hp hl
      injection h with h; subst h
      have hb : Option.rec (motive := fun _ => Option (List AV)) none (fill1 off size (buildL l' f) cs) ((opG G x).g f) = some r := hb
      cases hx : (opG G x).g f with
      | none => rw [hx] at hb; cases hb
      | some a =>
        rw [hx] at hb
        have hb : fill1 off size (buildL l' f) cs a = some r := hb
        unfold fill1 at hb
        cases hk : okPart a size with
        | false => rw [hk] at hb; cases hb
        | true =>
          rw [hk] at hb
          have hb : Option.rec (motive := fun _ => Option (List AV)) none (buildL l' f) (overAtR off (cellsR a) cs) = some r := hb
          cases ho : overAtR off (cellsR a) cs with
          | none => rw [ho] at hb; cases hb
          | some q =>
            rw [ho] at hb
            have hb : buildL l' f q = some r := hb
            obtain ⟨ps, h1, h2⟩ := buildL_ok hl hb
            obtain ⟨k1, k2⟩ := okPart_true hk
            obtain ⟨k3, k4⟩ := overAtR_some _ _ _ _ ho
            rw [cellsR_eq] at k3 k4
            rw [opG_ok] at hx
            refine ⟨(i, a) :: ps, by simp only [partsA, hx, h1], ?_⟩
            simp only [fillA, hp, k1, k2, beq_self_eq_true, Bool.true_and]
            rw [if_pos (by simpa using (by omega : off + size ≤ cs.length))]
            unfold splice
            rw [← k4]; exact h2
    · cases h
def buildB (l : List PB) (z : List AV) : VB := ⟨fun f _ => aggO (buildL l f z)⟩
def buildV (E : Env) (o : Oper) (t : TypeId) (parts : List (Nat × Operand)) : VB := match zeroA E.P t, fieldsOf E.P t with
  | some z, some fs => match placesA E.P fs.toList with
    | some pl => match placesL E.G pl parts with
      | some l => if z.noTup then buildB l z.cells else slowV E o
      | none => slowV E o
    | none => slowV E o
  | _, _ => slowV E o
theorem buildV_ok {E : Env} {o : Oper} {t : TypeId} {ps : Array (Nat × Operand)} (ho : o.op = .build t ps) : VOk E o (buildV E o t ps.toList) := by
  have slow : VOk E o (slowV E o) := slowV_ok (by simp [isLook, ho])
  unfold buildV
  split
  · rename_i z fs hz hf
    split
    · rename_i pl hpl
      split
      · rename_i l hl
        split
        · rename_i hn
          intro f S a h
          obtain ⟨cs, h1, h2⟩ := bndL_some h
          injection h2 with h2; subst h2
          obtain ⟨qs, k1, k2⟩ := buildL_ok hl h1
          simp only [exec1, ho, k1, oBuild, hz, hf, hpl, k2, if_pos hn, ofOpt]
        · exact slow
      · exact slow
    · exact slow
  · exact slow
def valsL (n : Nat) (l : List GB) (f : T AV) : Option (List AV) := List.rec (motive := fun _ => Option (List AV)) (some []) (fun g _ ih => Option.rec (motive := fun _ => Option (List AV)) none (fun a => Bool.rec (motive := fun _ => Option (List AV)) none (consO a ih) (okPart a n)) (g.g f)) l
theorem valsL_ok {G : Gl} {n : Nat} {f : T AV} : ∀ {parts : List (Nat × Operand)} {r : List AV}, valsL n (parts.map fun p => opG G p.2) f = some r → ∃ ps, partsA G f parts = some ps ∧ ps.map (·.1) = parts.map (·.1) ∧ ps.map (·.2) = r ∧ (ps.all fun p => p.2.noTup && p.2.cells.length == n) = true
  | [], r, h => by injection h with h; subst h; exact ⟨[], rfl, rfl, rfl, rfl⟩
  | (i, x) :: rest, r, h => by
    have h : Option.rec (motive := fun _ => Option (List AV)) none (fun a => Bool.rec (motive := fun _ => Option (List AV)) none (consO a (valsL n (rest.map fun p => opG G p.2) f)) (okPart a n)) ((opG G x).g f) = some r := h
    cases hx : (opG G x).g f with
    | none => rw [hx] at h; cases h
    | some a =>
      rw [hx] at h
      have h : Bool.rec (motive := fun _ => Option (List AV)) none (consO a (valsL n (rest.map fun p => opG G p.2) f)) (okPart a n) = some r := h
      cases hk : okPart a n with
      | false => rw [hk] at h; cases h
      | true =>
        rw [hk] at h
        have h : consO a (valsL n (rest.map fun p => opG G p.2) f) = some r := h
        cases hq : valsL n (rest.map fun p => opG G p.2) f with
        | none => rw [hq] at h; cases h
        | some q =>
          rw [hq] at h
          have h : some (a :: q) = some r := h
          injection h with h; subst h
          obtain ⟨ps, h1, h2, h3, h4⟩ := valsL_ok hq
          obtain ⟨k1, k2⟩ := okPart_true hk
          rw [opG_ok] at hx
          exact ⟨(i, a) :: ps, by simp only [partsA, hx, h1], by simp [h2], by simp [h3], by simp only [List.all_cons, k1, k2, h4, beq_self_eq_true, Bool.and_self]⟩
def rowB (n : Nat) (l : List GB) : VB := ⟨fun f _ => bndL (fun vs => some (.sl 1 0 n vs)) (valsL n l f)⟩
def rowV (E : Env) (o : Oper) (t : TypeId) (len : Nat) (parts : List (Nat × Operand)) : VB := match elemT E.P t with
  | some (none, e) => match sizeT E.P e, zeroA E.P e with
    | some (k + 1), some _ => if parts.map (·.1) = List.range len ∧ len * (k + 1) ≤ 16777216 then rowB (k + 1) (parts.map fun p => opG E.G p.2) else slowV E o
    | _, _ => slowV E o
  | _ => slowV E o
theorem rowV_ok {E : Env} {o : Oper} {t : TypeId} {len : Nat} {ps : Array (Nat × Operand)} (ho : o.op = .buildSlice t len ps) : VOk E o (rowV E o t len ps.toList) := by
  have slow : VOk E o (slowV E o) := slowV_ok (by simp [isLook, ho])
  unfold rowV
  split
  · rename_i e he
    split
    · rename_i k z hs hz
      split
      · rename_i hc
        intro f S a h
        obtain ⟨vs, h1, h2⟩ := bndL_some h
        injection h2 with h2; subst h2
        obtain ⟨qs, k1, k2, k3, k4⟩ := valsL_ok h1
        simp only [exec1, ho, k1, oBuildSlice, he, hs, hz, k2, k3, hc.1, k4, beq_self_eq_true, Bool.and_self, Bool.true_and, decide_eq_true_eq, if_pos hc.2, ofOpt]
      · exact slow
    · exact slow
  · exact slow
/-- Lengths. -/
def lenP (a : AV) : Option AV := PV.rec (motive := fun _ => Option AV) (fun _ _ => none) (fun _ => none) (some (.v (.int .i64 (.ofNat 0)))) (fun _ _ _ es => some (.v (.int .i64 (.ofNat (lenR es))))) (fun _ => none) (fun _ => none) none (fun _ _ n _ => some (.v (.int .i64 (.ofNat n)))) a.pv
def lenT (a : AV) : Option AV := SV.rec (motive := fun _ => Option AV) (fun _ => none) (fun _ _ => none) (fun l => some (.v (.int .i64 (.ofNat (lenR l))))) none a.sv
def lenPV (g : GB) : VB := ⟨fun f _ => bnd lenP (g.g f)⟩
def lenTV (g : GB) : VB := ⟨fun f _ => bnd lenT (g.g f)⟩
def lenV (E : Env) (o : Oper) (t : TypeId) (g : GB) : VB := match E.P.underlying t with
  | some (.slice _) => lenPV g
  | some .string => lenTV g
  | _ => slowV E o
theorem lenV_ok {E : Env} {o : Oper} {c : Call} {t : TypeId} {x : Operand} (ho : o.op = .call c) (hc : c.callee = .builtin .len) (ha : c.args.toList = [x]) (ht : c.argTypes.toList = [t]) : VOk E o (lenV E o t (opG E.G x)) := by
  unfold lenV
  split
  · rename_i e hu
    intro f S a h
    obtain ⟨b, h1, h2⟩ := bnd_some h
    rw [opG_ok] at h1
    simp only [exec1, ho, callA, hc, ha, ht, h1]
    unfold lenP at h2
    cases hp : b.pv with
    | n => rw [hp] at h2; injection h2 with h2; subst h2; rw [pv_n hp]; simp only [oLen, hu]; rfl
    | l tok off sz es => rw [hp] at h2; injection h2 with h2; subst h2; rw [pv_l hp]; simp only [oLen, hu, lenR_eq]; rfl
    | w id off n sz => rw [hp] at h2; injection h2 with h2; subst h2; rw [pv_w hp]; simp only [oLen, hu]; rfl
    | p => rw [hp] at h2; cases h2
    | e => rw [hp] at h2; cases h2
    | a => rw [hp] at h2; cases h2
    | t => rw [hp] at h2; cases h2
    | no => rw [hp] at h2; cases h2
  · rename_i hu
    intro f S a h
    obtain ⟨b, h1, h2⟩ := bnd_some h
    rw [opG_ok] at h1
    simp only [exec1, ho, callA, hc, ha, ht, h1]
    unfold lenT at h2
    cases hp : b.sv with
    | s l =>
      rw [hp] at h2; injection h2 with h2; subst h2
      obtain ⟨s, rfl, rfl⟩ := sv_s hp
      simp only [oLen, hu, lenR_eq]; rfl
    | b => rw [hp] at h2; cases h2
    | i => rw [hp] at h2; cases h2
    | no => rw [hp] at h2; cases h2
  · exact slowV_ok (by simp [isLook, ho, hc])
/-- Slices. -/
structure NB where
  n : T AV → Nat → Option Nat
def noNB : NB := ⟨fun _ d => some d⟩
def atNB (g : GB) : NB := ⟨fun f _ => Option.rec (motive := fun _ => Option Nat) none (fun a => natOf a.sv) (g.g f)⟩
def opNB (G : Gl) (x : Option Operand) : NB := match x with
  | none => noNB
  | some x => atNB (opG G x)
theorem opNB_ok {G : Gl} {x : Option Operand} {f : T AV} {d n : Nat} (h : (opNB G x).n f d = some n) : ∃ l, mapO (evalO G f) x.toList = some l ∧ boundA l.head? d = some n := by
  cases x with
  | none => injection h with h; subst h; exact ⟨[], rfl, rfl⟩
  | some x =>
    have h : Option.rec (motive := fun _ => Option Nat) none (fun a => natOf a.sv) ((opG G x).g f) = some n := h
    cases hx : (opG G x).g f with
    | none => rw [hx] at h; cases h
    | some a =>
      rw [hx] at h
      have h : natOf a.sv = some n := h
      obtain ⟨k, rfl⟩ := natOf_some h
      rw [opG_ok] at hx
      exact ⟨[.v (.int k (n : Int))], by simp only [Option.toList, mapO, hx], by simp only [List.head?_cons, boundA, if_pos (show (0 : Int) ≤ (n : Int) by omega), Int.toNat_natCast]⟩
def slQ (tok off sz l h : Nat) (es r : List AV) : Option AV := Bool.rec (motive := fun _ => Option AV)
  (Bool.rec (motive := fun _ => Option AV) (bndL (fun q => some (.sl 0 0 sz q)) (takeR (Nat.sub h l) r)) (some (.sl tok (Nat.add off (Nat.mul l sz)) sz r)) (Nat.beq h (lenR es)))
  (some (.sl 0 0 sz [])) (Nat.beq l h)
def slRow (tok off sz l h : Nat) (es : List AV) : Option AV := Bool.rec (motive := fun _ => Option AV) none (Bool.rec (motive := fun _ => Option AV) none (bndL (slQ tok off sz l h es) (dropR l es)) (Nat.ble h (lenR es))) (Nat.ble l h)
def slStr (l h : Nat) (s : List UInt8) : Option AV := Bool.rec (motive := fun _ => Option AV) none (Option.rec (motive := fun _ => Option AV) none (fun r => Option.rec (motive := fun _ => Option AV) none (fun q => some (.v (.string ⟨⟨q⟩⟩))) (takeR (Nat.sub h l) r)) (dropR l s)) (Nat.ble l h)
def slP2 (n : Nat) (lo hi : NB) (f : T AV) (a : AV) : Option AV := PV.rec (motive := fun _ => Option AV) (fun _ _ => none) (fun _ => none) none
  (fun tok off sz es => Bool.rec (motive := fun _ => Option AV) none (bndN (fun l => bndN (fun h => slRow tok off sz l h es) (hi.n f (lenR es))) (lo.n f 0)) (Nat.beq n sz)) (fun _ => none) (fun _ => none) none (fun _ _ _ _ => none) a.pv
def slT2 (lo hi : NB) (f : T AV) (a : AV) : Option AV := SV.rec (motive := fun _ => Option AV) (fun _ => none) (fun _ _ => none) (fun s => bndN (fun l => bndN (fun h => slStr l h s) (hi.n f (lenR s))) (lo.n f 0)) none a.sv
def orSlow (sl : VB) (h : T AV → AV → Option AV) (g : GB) : VB := ⟨fun f S => bnd (fun a => Option.rec (motive := fun _ => Option AV) (sl.v f S) (fun r => some r) (h f a)) (g.g f)⟩
theorem orSlow_ok {E : Env} {o : Oper} {h : T AV → AV → Option AV} {x : Operand} (hl : isLook o = true) (hh : ∀ f S a r, evalO E.G f x = some a → h f a = some r → exec1 E f S o = .val r S) : VOk E o (orSlow (slowV E o) h (opG E.G x)) := fun f S a e => by
  obtain ⟨b, h1, h2⟩ := bnd_some e
  cases hq : h f b with
  | none => rw [hq] at h2; exact slowV_ok hl f S a h2
  | some r =>
    rw [hq] at h2
    injection h2 with h2; subst h2
    rw [opG_ok] at h1
    exact hh f S b _ h1 hq
def sliceV (E : Env) (o : Oper) (t : TypeId) (x : Operand) (lo hi : Option Operand) : VB := match elemT E.P t with
  | some (none, e) => match sizeT E.P e with
    | some n => orSlow (slowV E o) (slP2 n (opNB E.G lo) (opNB E.G hi)) (opG E.G x)
    | none => slowV E o
  | _ => match E.P.underlying t with
    | some .string => orSlow (slowV E o) (slT2 (opNB E.G lo) (opNB E.G hi)) (opG E.G x)
    | _ => slowV E o
theorem ble_dec (a b : Nat) : Nat.ble a b = decide (a ≤ b) := by
  cases h : Nat.ble a b with
  | true => rw [decide_eq_true (Nat.le_of_ble_eq_true h)]
  | false => symm; rw [decide_eq_false_iff_not]; intro hle; rw [Nat.ble_eq_true_of_le hle] at h; cases h
theorem sliceV_ok {E : Env} {o : Oper} {t : TypeId} {x : Operand} {lo hi : Option Operand} (ho : o.op = .slice t x lo hi none) : VOk E o (sliceV E o t x lo hi) := by
  have hl : isLook o = true := by simp [isLook, ho]
  unfold sliceV
  split
  · rename_i e he
    split
    · rename_i n hs
      refine orSlow_ok hl fun f S a r hx hr => ?_
      simp only [exec1, ho, hx]
      unfold slP2 at hr
      cases hp : a.pv with
      | l tok off sz es =>
        rw [hp] at hr
        rw [pv_l hp]
        have hr : Bool.rec (motive := fun _ => Option AV) none (bndN (fun l => bndN (fun h => slRow tok off sz l h es) ((opNB E.G hi).n f (lenR es))) ((opNB E.G lo).n f 0)) (Nat.beq n sz) = some r := hr
        cases hb : Nat.beq n sz with
        | false => rw [hb] at hr; cases hr
        | true =>
          rw [hb] at hr
          have hn := Nat.eq_of_beq_eq_true hb
          subst hn
          obtain ⟨l, h1, h2⟩ := bndN_some hr
          obtain ⟨h, h3, h4⟩ := bndN_some h2
          rw [lenR_eq] at h3
          obtain ⟨ll, q1, q2⟩ := opNB_ok h1
          obtain ⟨lh, q3, q4⟩ := opNB_ok h3
          simp only [q1, q3, oSlice, he, hs, q2, q4]
          unfold slRow at h4
          rw [lenR_eq, ble_dec, ble_dec] at h4
          by_cases c1 : l ≤ h
          · by_cases c2 : h ≤ es.length
            · rw [decide_eq_true c1, decide_eq_true c2] at h4
              obtain ⟨rr, h5, h6⟩ := bndL_some h4
              obtain ⟨_, rfl⟩ := dropR_some _ _ _ h5
              rw [if_pos (by simp [c1, c2])]
              unfold slQ at h6
              rw [lenR_eq] at h6
              by_cases c3 : l = h
              · subst c3
                rw [show Nat.beq l l = true from Nat.beq_refl l] at h6
                injection h6 with h6; subst h6
                rw [if_pos (by simp)]; rfl
              · have c4 : Nat.beq l h = false := by rw [beq_dec]; simpa using c3
                rw [c4] at h6
                rw [if_neg (by simpa using c3)]
                by_cases c5 : h = es.length
                · subst c5
                  rw [show Nat.beq es.length es.length = true from Nat.beq_refl _] at h6
                  injection h6 with h6; subst h6
                  rw [if_pos (by simp)]; rfl
                · have c6 : Nat.beq h es.length = false := by rw [beq_dec]; simpa using c5
                  rw [c6] at h6
                  rw [if_neg (by simpa using c5)]
                  obtain ⟨qq, h7, h8⟩ := bndL_some h6
                  obtain ⟨_, rfl⟩ := takeR_some _ _ _ h7
                  injection h8 with h8; subst h8
                  rfl
            · rw [decide_eq_true c1, decide_eq_false c2] at h4; cases h4
          · rw [decide_eq_false c1] at h4; cases h4
      | p => rw [hp] at hr; cases hr
      | e => rw [hp] at hr; cases hr
      | n => rw [hp] at hr; cases hr
      | a => rw [hp] at hr; cases hr
      | t => rw [hp] at hr; cases hr
      | no => rw [hp] at hr; cases hr
      | w => rw [hp] at hr; cases hr
    · exact slowV_ok hl
  · split
    · rename_i hu
      refine orSlow_ok hl fun f S a r hx hr => ?_
      simp only [exec1, ho, hx]
      unfold slT2 at hr
      cases hp : a.sv with
      | s l0 =>
        rw [hp] at hr
        obtain ⟨s, rfl, rfl⟩ := sv_s hp
        obtain ⟨l, h1, h2⟩ := bndN_some hr
        obtain ⟨h, h3, h4⟩ := bndN_some h2
        rw [lenR_eq] at h3
        have h3 : (opNB E.G hi).n f s.size = some h := h3
        obtain ⟨ll, q1, q2⟩ := opNB_ok h1
        obtain ⟨lh, q3, q4⟩ := opNB_ok h3
        simp only [q1, q3, fastSlice, hu, q2, q4]
        unfold slStr at h4
        rw [ble_dec] at h4
        by_cases c1 : l ≤ h
        · rw [decide_eq_true c1] at h4
          have h4 : Option.rec (motive := fun _ => Option AV) none (fun r => Option.rec (motive := fun _ => Option AV) none (fun q => some (.v (.string ⟨⟨q⟩⟩))) (takeR (Nat.sub h l) r)) (dropR l s.data.toList) = some r := h4
          cases hd : dropR l s.data.toList with
          | none => rw [hd] at h4; cases h4
          | some rr =>
            rw [hd] at h4
            have h4 : Option.rec (motive := fun _ => Option AV) none (fun q => some (.v (.string ⟨⟨q⟩⟩))) (takeR (Nat.sub h l) rr) = some r := h4
            cases ht : takeR (Nat.sub h l) rr with
            | none => rw [ht] at h4; cases h4
            | some q =>
              rw [ht] at h4
              injection h4 with h4; subst h4
              obtain ⟨k1, rfl⟩ := dropR_some _ _ _ hd
              obtain ⟨k2, rfl⟩ := takeR_some _ _ _ ht
              have k3 : h ≤ s.size := by
                have : s.size = s.data.toList.length := rfl
                simp only [Nat.sub_eq, List.length_drop] at k2
                omega
              rw [show Nat.ble l h = true by rw [ble_dec, decide_eq_true c1], show Nat.ble h s.size = true by rw [ble_dec, decide_eq_true k3]]
              rfl
        · rw [decide_eq_false c1] at h4; cases h4
      | b => rw [hp] at hr; cases hr
      | i => rw [hp] at hr; cases hr
      | no => rw [hp] at hr; cases hr
    · exact slowV_ok hl
/-- Whatever look it is. -/
def callV (E : Env) (o : Oper) (c : Call) : VB := match c.callee, c.args.toList, c.argTypes.toList with
  | .builtin .len, [x], [t] => lenV E o t (opG E.G x)
  | _, _, _ => slowV E o
def valV (E : Env) (o : Oper) : VB := match o.op with
  | .move x => moveV (opG E.G x)
  | .assign x => moveV (opG E.G x)
  | .pick c x y => pickV (opG E.G c) (opG E.G x) (opG E.G y)
  | .build t ps => buildV E o t ps.toList
  | .buildSlice t len ps => rowV E o t len ps.toList
  | .load t x => loadV E.P t (opG E.G x)
  | .nilCheck x => nilV (opG E.G x)
  | .binOp op t x y _ => binV E o op (opG E.G x) (opG E.G y)
  | .makeInterface t x => makeIV E.P t (opG E.G x)
  | .slice t x lo hi none => sliceV E o t x lo hi
  | .fieldAddr t x i => faddrV E.P t i (opG E.G x)
  | .field t x i => fieldV E.P t i (opG E.G x)
  | .indexAddr t x i => iaddrV E.P t (opG E.G x) (opG E.G i)
  | .index t x i => indexV E o t (opG E.G x) (opG E.G i)
  | .extract x i => extrV i (opG E.G x)
  | .call c => callV E o c
  | _ => slowV E o
theorem valV_ok {E : Env} {o : Oper} (hl : isLook o = true) : VOk E o (valV E o) := by
  have hm : ∀ x, (∀ f S, exec1 E f S o = ofOpt S (evalO E.G f x)) → VOk E o (moveV (opG E.G x)) := fun x he f S a h => by
    have h : (opG E.G x).g f = some a := h
    rw [opG_ok] at h
    rw [he, h]; rfl
  unfold valV
  split
  · rename_i x ho; exact hm x fun f S => by simp only [exec1, ho]
  · rename_i x ho; exact hm x fun f S => by simp only [exec1, ho]
  · rename_i ho; exact pickV_ok ho
  · rename_i ho; exact buildV_ok ho
  · rename_i ho; exact rowV_ok ho
  · rename_i ho; exact loadV_ok ho
  · rename_i ho; exact nilV_ok ho
  · rename_i ho; exact binV_ok ho
  · rename_i ho; exact makeIV_ok ho
  · rename_i ho; exact sliceV_ok ho
  · rename_i ho; exact faddrV_ok ho
  · rename_i ho; exact fieldV_ok ho
  · rename_i ho; exact iaddrV_ok ho
  · rename_i ho; exact indexV_ok ho
  · rename_i ho; exact extrV_ok ho
  · rename_i c ho
    unfold callV
    split
    · rename_i hc ha ht; exact lenV_ok ho hc ha ht
    · exact slowV_ok hl
  · exact slowV_ok hl
end Go.Ax
