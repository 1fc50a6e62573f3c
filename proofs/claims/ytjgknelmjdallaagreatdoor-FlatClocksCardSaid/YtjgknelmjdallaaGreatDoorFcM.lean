/-
  Code on abstract states: operations in a row, branches, loops, calls; that the model does the same.
-/
import Derived.Test.YtjgknelmjdallaaGreatDoorFcL
import Derived.Tactics
noncomputable section
namespace Go.Ax
open Go.RowKit
set_option linter.unusedVariables false
set_option linter.unusedSimpArgs false

structure Dfr where
  fn : Fn
  caps : List AV
  args : List AV
structure Fr where
  tmps : T AV
  dfr : List Dfr
inductive Ex where
  | normal
  | exit (id : Nat)
  | ret
  | pan (a : AV)
inductive O where
  | out (e : Ex) (f : Fr) (S : St)
  | fail
abbrev CallK := FuncId → List AV → St → R
def DfrR (γ : Gh) (w : World) (d : Dfr) (m : Deferred) : Prop := ∃ cv av : List Value, m = { target := .fn d.fn cv.toArray, args := av.toArray } ∧ VRL γ w d.caps cv ∧ VRL γ w d.args av
def DfrL (γ : Gh) (w : World) : List Dfr → List Deferred → Prop
  | [], [] => True
  | d :: ds, m :: ms => DfrR γ w d m ∧ DfrL γ w ds ms
  | _, _ => False
theorem DfrL.mono {γ γ' : Gh} {w w' : World} (e : Ev γ w γ' w') : ∀ {ds : List Dfr} {ms : List Deferred}, DfrL γ w ds ms → DfrL γ' w' ds ms
  | [], [], _ => trivial
  | d :: ds, m :: ms, h => ⟨by obtain ⟨cv, av, h1, h2, h3⟩ := h.1; exact ⟨cv, av, h1, h2.mono e, h3.mono e⟩, DfrL.mono e h.2⟩
  | [], _ :: _, h => h
  | _ :: _, [], h => h
structure AR (γ : Gh) (w : World) (n : Nat) (f : Fr) (act : Act) : Prop where
  tmps : FR γ w f.tmps act.tmps
  size : act.tmps.size = n
  dfr : DfrL γ w f.dfr act.defers
theorem AR.mono {γ γ' : Gh} {w w' : World} (e : Ev γ w γ' w') {n : Nat} {f : Fr} {act : Act} (h : AR γ w n f act) : AR γ' w' n f act := ⟨h.tmps.mono e, h.size, h.dfr.mono e⟩
def putA (n : Nat) (f : Fr) (dst : Option Tmp) (a : AV) (S : St) : O := match dst with
  | none => .out .normal f S
  | some d => if d < n then .out .normal { f with tmps := f.tmps.set d (some a) } S else .fail
/-- Is an operation wanted? -/
def wantedA (ops : Array Oper) (o : Oper) (f : T AV) : Option Bool := match o.guard with
  | none => some true
  | some (j, want) => match (ops[j]?).bind (·.dst) with
    | none => some false
    | some d => match f.get d with
      | some (.v (.bool b)) => some (b == want)
      | some (.tup _) => some false
      | _ => none
def stepO (E : Env) (callK : CallK) (n : Nat) (ops : Array Oper) (o : Oper) (f : Fr) (S : St) : O :=
  match wantedA ops o f.tmps with
  | none => .fail
  | some false => putA n f o.dst (.tup []) S
  | some true => match exec1 E f.tmps S o with
    | .val a S' => putA n f o.dst a S'
    | .skip S' => putA n f o.dst (.tup []) S'
    | .enter k args S' => match callK k args S' with
      | .ret a S'' => putA n f o.dst a S''
      | .pan a S'' => .out (.pan a) f S''
      | .fail => .fail
    | .dfr fn caps args S' => putA n { f with dfr := ⟨fn, caps, args⟩ :: f.dfr } o.dst (.tup []) S'
    | .pan a S' => .out (.pan a) f S'
    | .fail => .fail
def Lands (γ' : Gh) (Q : Exit → Act → World → Prop) (act' : Act) (w' : World) : Ex → Prop
  | .normal => Q .normal act' w'
  | .exit id => Q (.exit id) act' w'
  | .ret => Q .ret act' w'
  | .pan a => ∀ v, VR γ' w' a v → Q (.panic [{ v, recovered := false }]) act' w'
def Holds (base : Nat) (w0 : World) (n : Nat) (γ : Gh) (S : St) (w : World) (Q : Exit → Act → World → Prop) : O → Prop
  | .out e f' S' => ∀ γ' act' w', SR base w0 γ' S' w' → Ext γ S w γ' S' w' → AR γ' w' n f' act' → Lands γ' Q act' w' e
  | .fail => False
theorem Holds.later {base : Nat} {w0 : World} {n : Nat} {γ γ1 : Gh} {S S1 : St} {w w1 : World} {Q : Exit → Act → World → Prop} {r : O} (e : Ext γ S w γ1 S1 w1) (h : Holds base w0 n γ S w Q r) : Holds base w0 n γ1 S1 w1 Q r := by
  cases r with
  | fail => exact h
  | out x f' S' => exact fun γ' act' w' h1 h2 h3 => h γ' act' w' h1 (e.trans h2) h3
/-- What a call of the kind does, in the model. -/
def RetOk (base : Nat) (w0 : World) (γ : Gh) (S : St) (w : World) (r : R) (e : Ending) (w' : World) : Prop :=
  match r with
  | .ret a S' => ∃ γ' v, SR base w0 γ' S' w' ∧ Ext γ S w γ' S' w' ∧ VR γ' w' a v ∧ e = .returned v
  | .pan a S' => ∃ γ' v, SR base w0 γ' S' w' ∧ Ext γ S w γ' S' w' ∧ VR γ' w' a v ∧ e = .panicked [{ v, recovered := false }]
  | .fail => False
def IntrOk (E : Env) : Prop :=
  ∀ k g, E.I k = some g → ∀ (base : Nat) (w0 : World) args S, g args S ≠ .fail → ∀ γ w (vs : List Value), SR base w0 γ S w → GR γ w E.G → VRL γ w args vs → Calls E.P k vs.toArray w (RetOk base w0 γ S w (g args S))
def CallOk (E : Env) (base : Nat) (w0 : World) (callK : CallK) : Prop :=
  ∀ k args S, callK k args S ≠ .fail → ∀ γ w (vs : List Value), SR base w0 γ S w → GR γ w E.G → VRL γ w args vs → (E.F k).isSome = true → Calls E.P k vs.toArray w (RetOk base w0 γ S w (callK k args S))
section
variable {E : Env} {base : Nat} {w0 : World} {Q : Exit → Act → World → Prop}
theorem put_holds {γ : Gh} {S S' : St} {w w' : World} {γ' : Gh} {n : Nat} {f : Fr} {act : Act} {dst : Option Tmp} {a : AV} {v : Value} (hH : Holds base w0 n γ S w Q (putA n f dst a S')) (hS : SR base w0 γ' S' w') (he : Ext γ S w γ' S' w') (ha : AR γ' w' n f act) (hv : VR γ' w' a v) : Q .normal (act.put dst v) w' := by
  unfold putA at hH
  split at hH
  · exact hH γ' _ w' hS he ha
  · rename_i d
    split at hH
    · rename_i hd
      refine hH γ' _ w' hS he ⟨?_, by simp [Act.put, ha.size], ha.dfr⟩
      exact ha.tmps.put (some d) n ha.size.symm hv (fun d' hd' => by injection hd' with hd'; subst hd'; exact hd)
    · exact hH.elim
theorem wantedA_sound {γ : Gh} {w : World} {n : Nat} {f : Fr} {act : Act} {ops : Array Oper} {o : Oper} (ha : AR γ w n f act) {b : Bool} (h : wantedA ops o f.tmps = some b) : Region.wanted o (yielded ops act.tmps) = b := by
  unfold wantedA at h
  unfold Region.wanted
  split at h
  · rename_i hg; injection h with h; subst h; rw [hg]
  · rename_i j want hg
    rw [hg]
    show (yielded ops act.tmps j == some want) = b
    unfold yielded
    split at h
    · rename_i hd; injection h with h; subst h; rw [hd]; rfl
    · rename_i d hd
      rw [hd]
      have key : ∀ a, f.tmps.get d = some a → ∃ v, act.tmps[d]? = some v ∧ VR γ w a v := fun a hda => by
        obtain ⟨h1, h2⟩ := ha.tmps d a hda
        exact ⟨act.tmps[d], Array.getElem?_eq_getElem h1, by simpa [h1] using h2⟩
      split at h
      · rename_i bb hb
        injection h with h; subst h
        obtain ⟨v, hv, hr⟩ := key _ hb
        cases hr
        simp [hv]
      · rename_i vs hb
        injection h with h; subst h
        obtain ⟨v, hv, hr⟩ := key _ hb
        cases hr
        simp [hv]
      · cases h
theorem stepO_sound (hE : E.Ok) {callK : CallK} (hC : CallOk E base w0 callK) {γ : Gh} {S : St} {w : World} {n : Nat} {ops : Array Oper} {o : Oper} {f : Fr} {act : Act} (hS : SR base w0 γ S w) (ha : AR γ w n f act) (hg : GR γ w E.G)
    {K : Act → World → Prop} (hH : Holds base w0 n γ S w (fun x a w => match x with | .normal => K a w | x => Q x a w) (stepO E callK n ops o f S)) :
    if Region.wanted o (yielded ops act.tmps) then o.wp E.P act w K Q else K (act.put o.dst undef) w := by
  unfold stepO at hH
  split at hH
  · exact hH.elim
  · rename_i hw
    rw [wantedA_sound ha hw, if_neg (by simp)]
    exact put_holds (v := undef) hH hS (.refl _ _ _) ha (by have := VR.tup (γ := γ) (w := w) [] [] rfl (fun k h => by cases h); exact this)
  · rename_i hw
    rw [wantedA_sound ha hw, if_pos rfl]
    have hex := exec1_sound (o := o) hE hS ha.tmps hg
    have hund : ∀ {γ' : Gh} {w' : World}, VR γ' w' (.tup []) undef := fun {γ'} {w'} => by have := VR.tup (γ := γ') (w := w') [] [] rfl (fun k h => by cases h); exact this
    unfold Oper.wp
    split at hH
    · rename_i a S' he
      rw [he] at hex
      obtain ⟨v, w', γ', hr, h1, h2, h3⟩ := hex
      rw [hr]
      exact put_holds hH h1 h2 (ha.mono h2.ev) h3
    · rename_i S' he
      rw [he] at hex
      obtain ⟨w', γ', hr, h1, h2⟩ := hex
      rw [hr]
      exact put_holds hH h1 h2 (ha.mono h2.ev) hund
    · rename_i k args S' he
      rw [he] at hex
      obtain ⟨rfl, hF, vs, hr, h3⟩ := hex
      rw [hr]
      have hne : callK k args S' ≠ .fail := fun e => by rw [e] at hH; exact hH.elim
      refine (hC k args S' hne γ w vs hS hg h3 hF).mono fun e w' hret => ?_
      unfold RetOk at hret
      split at hret
      · rename_i a S'' hk
        rw [hk] at hH
        obtain ⟨γ', v, k1, k2, k3, rfl⟩ := hret
        exact put_holds hH k1 k2 (ha.mono k2.ev) k3
      · rename_i a S'' hk
        rw [hk] at hH
        obtain ⟨γ', v, k1, k2, k3, rfl⟩ := hret
        exact hH γ' act w' k1 k2 (ha.mono k2.ev) v k3
      · exact hret.elim
    · rename_i fn caps args S' he
      rw [he] at hex
      obtain ⟨rfl, cv, av, hr, h1, h2⟩ := hex
      rw [hr]
      exact put_holds (act := { act with defers := { target := .fn fn cv.toArray, args := av.toArray } :: act.defers }) hH hS (.refl _ _ _) ⟨ha.tmps, ha.size, ⟨cv, av, rfl, h1, h2⟩, ha.dfr⟩ hund
    · rename_i a S' he
      rw [he] at hex
      obtain ⟨rfl, v, hr, hv⟩ := hex
      rw [hr]
      exact hH γ act w hS (.refl _ _ _) ha v hv
    · exact hH.elim
/-- Operations in a row. -/
def runL (E : Env) (callK : CallK) (n : Nat) (ops : Array Oper) : List Oper → Fr → St → O
  | [], f, S => .out .normal f S
  | o :: rest, f, S => match stepO E callK n ops o f S with
    | .out .normal f' S' => runL E callK n ops rest f' S'
    | r => r
theorem runL_sound (hE : E.Ok) {callK : CallK} (hC : CallOk E base w0 callK) {n : Nat} {ops : Array Oper} : ∀ (l : List Oper) (γ : Gh) (S : St) (w : World) (f : Fr) (act : Act), SR base w0 γ S w → AR γ w n f act → GR γ w E.G →
    Holds base w0 n γ S w Q (runL E callK n ops l f S) → wpList E.P ops Q l act w
  | [], γ, S, w, f, act, hS, ha, hg, hH => hH γ act w hS (.refl _ _ _) ha
  | o :: rest, γ, S, w, f, act, hS, ha, hg, hH => by
    refine wpList_step fun K hK => ?_
    refine stepO_sound hE hC hS ha hg ?_
    unfold runL at hH
    split at hH
    · rename_i f' S' hs
      rw [hs]
      intro γ' act' w' h1 h2 h3
      exact hK _ _ (runL_sound hE hC rest γ' S' w' f' act' h1 h3 (hg.mono h2.ev) (hH.later h2))
    · rename_i r hr
      cases hst : stepO E callK n ops o f S with
      | fail => rw [hst] at hH; exact hH.elim
      | out e f' S' =>
        rw [hst] at hH
        intro γ' act' w' h1 h2 h3
        have := hH γ' act' w' h1 h2 h3
        cases e with
        | normal => exact absurd hst (hr f' S')
        | exit id => exact this
        | ret => exact this
        | pan a => exact this
end
/-- A region whose order is drawn, run somehow. -/
abbrev Drawn := CallK → Nat → Array Oper → Fr → St → O
def DrawnOk (E : Env) (D : Drawn) : Prop :=
  ∀ (base : Nat) (w0 : World) (Q : Exit → Act → World → Prop) (callK : CallK), CallOk E base w0 callK → ∀ (n id : Nat) (ops : Array Oper) (γ : Gh) (S : St) (w : World) (f : Fr) (act : Act), SR base w0 γ S w → AR γ w n f act → GR γ w E.G →
    Holds base w0 n γ S w Q (D callK n ops f S) → (Code.region id ops true).wp E.P Q act w
def stepC (E : Env) (D : Drawn) (rec : Nat → Code → Fr → St → O) (callK : CallK) (n : Nat) (c : Code) (f : Fr) (S : St) : O :=
  match c with
  | .skip => .out .normal f S
  | .label _ => .out .normal f S
  | .region _ ops false => runL E callK n ops ops.toList f S
  | .region _ ops true => D callK n ops f S
  | .seq a b => match rec n a f S with
    | .out .normal f' S' => rec n b f' S'
    | r => r
  | .cond c x y => match evalO E.G f.tmps c with
    | some (.v (.bool true)) => rec n x f S
    | some (.v (.bool false)) => rec n y f S
    | _ => .fail
  | .block id c => match rec n c f S with
    | .out (.exit id') f' S' => if id' = id then .out .normal f' S' else .out (.exit id') f' S'
    | r => r
  | .loop c => match rec n c f S with
    | .out .normal f' S' => rec n (.loop c) f' S'
    | r => r
  | .exit id => .out (.exit id) f S
  | .ret => .out .ret f S
  | _ => .fail
/-- What a function answers. -/
def resultsA (E : Env) (f : T AV) (S : St) : List ResultVar → Option (List AV)
  | [] => some []
  | .tmp t :: r => match f.get t, resultsA E f S r with
    | some a, some l => some (a :: l)
    | _, _ => none
  | .cell x t :: r => match f.get x with
    | some a => match oLoad E.P S t a, resultsA E f S r with
      | some a, some l => some (a :: l)
      | _, _ => none
    | none => none
def tupA : List AV → AV
  | [a] => a
  | l => .tup l
def initT : List AV → Nat → T AV
  | [], _ => .leaf
  | a :: r, k => (initT r (k + 1)).set k (some a)
/-- A deferred function that begins with recover. -/
def isRecover (o : Oper) : Option Tmp := match o.op with
  | .call c => match c.callee with
    | .builtin .recover => if o.guard.isNone then o.dst else none
    | _ => none
  | _ => none
inductive DR where
  | ok (met : Bool) (S : St)
  | fail
def dfrA (E : Env) (rec : Nat → Code → Fr → St → O) (k : FuncId) (args : List AV) (S : St) (m : Option AV) : DR :=
  match E.F k with
  | none => .fail
  | some fn => match fn.body with
    | some (.seq (.region _ ops false) rest) => match ops.toList with
      | [o] => match isRecover o with
        | some d => if args.length ≤ fn.ntmps ∧ d < fn.ntmps then
            match rec fn.ntmps rest ⟨(initT args 0).set d (some (m.getD (.v .nilIface))), []⟩ S with
            | .out e f' S' => match f'.dfr, fn.results.toList, e with
              | [], [], .normal => .ok m.isSome S'
              | [], [], .ret => .ok m.isSome S'
              | _, _, _ => .fail
            | .fail => .fail
          else .fail
        | none => .fail
      | _ => .fail
    | _ => .fail
def giveA (E : Env) (fn : Func) (f : T AV) (S : St) : R := match resultsA E f S fn.results.toList with
  | some l => .ret (tupA l) S
  | none => .fail
def endA (E : Env) (rec : Nat → Code → Fr → St → O) (fn : Func) : O → R
  | .out e f S => match f.dfr with
    | [] => match e with
      | .normal => giveA E fn f.tmps S
      | .ret => giveA E fn f.tmps S
      | .pan a => .pan a S
      | _ => .fail
    | [⟨.func k, caps, args⟩] => match e with
      | .normal => match dfrA E rec k (args ++ caps) S none with
        | .ok _ S' => giveA E fn f.tmps S'
        | .fail => .fail
      | .ret => match dfrA E rec k (args ++ caps) S none with
        | .ok _ S' => giveA E fn f.tmps S'
        | .fail => .fail
      | .pan a => match dfrA E rec k (args ++ caps) S (some a) with
        | .ok _ S' => giveA E fn f.tmps S'
        | .fail => .fail
      | _ => .fail
    | _ => .fail
  | .fail => .fail
def stepF (E : Env) (rec : Nat → Code → Fr → St → O) : CallK := fun k args S =>
  match E.I k with
  | some g => g args S
  | none => match E.F k with
    | none => .fail
    | some fn => match fn.body with
      | none => .fail
      | some c => if args.length ≤ fn.ntmps then endA E rec fn (rec fn.ntmps c ⟨initT args 0, []⟩ S) else .fail
def run (E : Env) (D : Drawn) : Nat → Nat → Code → Fr → St → O :=
  Nat.rec (fun _ _ _ _ => .fail) (fun _ ih => stepC E D ih (stepF E ih))
def callN (E : Env) (D : Drawn) (m : Nat) : CallK := stepF E (run E D m)
end Go.Ax
