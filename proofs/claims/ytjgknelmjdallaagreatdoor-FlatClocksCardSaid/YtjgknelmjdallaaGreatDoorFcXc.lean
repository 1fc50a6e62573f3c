/-
  Operations that write, calls, code, functions, made ready: all runs are the slow ones.
-/
import Derived.Test.YtjgknelmjdallaaGreatDoorFcZ
noncomputable section
namespace Go.Ax
open Go.RowKit
set_option linter.unusedVariables false
set_option linter.unusedSimpArgs false

def contX (k : Ck) (ck : CallK) (r : O) : O := O.rec (motive := fun _ => O) (fun e f S => Ex.rec (motive := fun _ => O) (k ck f.tmps f.dfr S) (fun i => .out (.exit i) f S) (.out .ret f S) (fun a => .out (.pan a) f S) e) .fail r
def failB : Bx := ⟨fun _ _ _ _ => .fail⟩
def normB : Bx := ⟨fun _ t d S => .out .normal ⟨t, d⟩ S⟩
def idS : SB := ⟨fun t _ => t⟩
def dstS (n : Nat) (dst : Option Tmp) : Option SB := match dst with
  | none => some idS
  | some d => if d < n then some (setS d) else none
theorem dstS_ok {n : Nat} {dst : Option Tmp} {s : SB} (h : dstS n dst = some s) (t : T AV) (d : List Dfr) (a : AV) (S : St) : putA n ⟨t, d⟩ dst a S = .out .normal ⟨s.s t a, d⟩ S := by
  cases dst with
  | none => injection h with h; subst h; rfl
  | some x =>
    simp only [dstS] at h
    split at h
    · rename_i hx
      injection h with h; subst h
      simp only [putA, if_pos hx, setS_ok]
    · cases h
def Rf (x y : O) : Prop := x = .fail ∨ x = y
theorem Rf.refl (x : O) : Rf x x := .inr rfl
def CkF (E : Env) (ck : CallK) : Prop := ∀ k args S, ck k args S ≠ .fail → (E.F k).isSome = true
/-- An operation that is wanted. -/
def stepT (E : Env) (callK : CallK) (n : Nat) (o : Oper) (f : Fr) (S : St) : O := match exec1 E f.tmps S o with
    | .val a S' => putA n f o.dst a S'
    | .skip S' => putA n f o.dst (.tup []) S'
    | .enter k args S' => match callK k args S' with
      | .ret a S'' => putA n f o.dst a S''
      | .pan a S'' => .out (.pan a) f S''
      | .fail => .fail
    | .dfr fn caps args S' => putA n { f with dfr := ⟨fn, caps, args⟩ :: f.dfr } o.dst (.tup []) S'
    | .pan a S' => .out (.pan a) f S'
    | .fail => .fail
def retX (s : SB) (k : Bx) (ck : CallK) (t : T AV) (d : List Dfr) (r : R) : O := R.rec (motive := fun _ => O) (fun a S => k.c ck (s.s t a) d S) (fun a S => .out (.pan a) ⟨t, d⟩ S) .fail r
def yieldX (s : SB) (k : Bx) (ck : CallK) (t : T AV) (d : List Dfr) (r : OR) : O := OR.rec (motive := fun _ => O) (fun a S => k.c ck (s.s t a) d S) (fun S => k.c ck (s.s t (.tup [])) d S) (fun f args S => retX s k ck t d (ck f args S)) (fun fn caps args S => k.c ck (s.s t (.tup [])) (⟨fn, caps, args⟩ :: d) S) (fun a S => .out (.pan a) ⟨t, d⟩ S) .fail r
def slowC (E : Env) (o : Oper) (s : SB) (k : Bx) : Bx := ⟨fun ck t d S => yieldX s k ck t d (exec1R E t S o)⟩
def lookB (v : VB) (s : SB) (k : Bx) : Bx := ⟨fun ck t d S => Option.rec (motive := fun _ => O) .fail (fun a => k.c ck (s.s t a) d S) (v.v t S)⟩
def stC (S : St) (id off : Nat) (b : AV) (kk : St → O) (c : Option Cell) : O := Option.rec (motive := fun _ => O) .fail (fun c => Cell.rec (motive := fun _ => O) (fun cs => Option.rec (motive := fun _ => O) .fail (fun r => kk ⟨S.next, S.mem.set id (some (.box r))⟩) (overAtR off (cellsR b) cs)) (fun _ => .fail) (fun _ => .fail) c) c
def st1 (sz : Nat) (S : St) (b : AV) (kk : St → O) (a : AV) : O := PV.rec (motive := fun _ => O) (fun id off => Bool.rec (motive := fun _ => O) .fail (stC S id off b kk (S.mem.get id)) (okPart b sz)) (fun _ => .fail) .fail (fun _ _ _ _ => .fail) (fun _ => .fail) (fun _ => .fail) .fail (fun _ _ _ _ => .fail) a.pv
def storeB (sz : Nat) (gx gy : GB) (s : SB) (k : Bx) : Bx := ⟨fun ck t d S => Option.rec (motive := fun _ => O) .fail (fun a => Option.rec (motive := fun _ => O) .fail (fun b => st1 sz S b (fun S' => k.c ck (s.s t (.tup [])) d S') a) (gy.g t)) (gx.g t)⟩
def argsR (l : List GB) (t : T AV) : Option (List AV) := List.rec (motive := fun _ => Option (List AV)) (some []) (fun g _ ih => Option.rec (motive := fun _ => Option (List AV)) none (fun a => consO a ih) (g.g t)) l
def callFB (f : FuncId) (args : List GB) (s : SB) (k : Bx) : Bx := ⟨fun ck t d S => Option.rec (motive := fun _ => O) .fail (fun l => retX s k ck t d (ck f l S)) (argsR args t)⟩
def callC1 (s : SB) (k : Bx) (ck : CallK) (t : T AV) (d : List Dfr) (S : St) (args : List AV) (a : AV) : O := match a with
  | .fn (.func f) first caps => retX s k ck t d (ck f (first ++ args ++ caps) S)
  | _ => .fail
def callCB (g : GB) (args : List GB) (s : SB) (k : Bx) : Bx := ⟨fun ck t d S => Option.rec (motive := fun _ => O) .fail (fun a => Option.rec (motive := fun _ => O) .fail (fun l => callC1 s k ck t d S l a) (argsR args t)) (g.g t)⟩
def allocB (z : List AV) (s : SB) (k : Bx) : Bx := ⟨fun ck t d S => k.c ck (s.s t (.ptr S.next 0)) d ⟨Nat.succ S.next, S.mem.set S.next (some (.box z))⟩⟩
def boxB (g : GB) (s : SB) (k : Bx) : Bx := ⟨fun ck t d S => Option.rec (motive := fun _ => O) .fail (fun a => Bool.rec (motive := fun _ => O) .fail (k.c ck (s.s t (.ptr S.next 0)) d ⟨Nat.succ S.next, S.mem.set S.next (some (.box (cellsR a)))⟩) (noTupR a)) (g.g t)⟩
def zeroOf (P : Program) (e : TypeId) : Option (List AV) := match P.info? e with
  | some i => match i.zero with
    | some z => match ofConst 8 z with
      | some a => if a.noTup then some a.cells else none
      | none => none
    | none => none
  | none => none
def coreB (E : Env) (o : Oper) (s : SB) (k : Bx) : Bx := if isLook o then lookB (valV E o) s k else match o.op with
  | .store t x y => match sizeT E.P t with
    | some n => storeB n (opG E.G x) (opG E.G y) s k
    | none => failB
  | .alloc e => match zeroOf E.P e with
    | some z => allocB z s k
    | none => failB
  | .box _ x => boxB (opG E.G x) s k
  | .call c => match c.callee with
    | .value (.func f) => callFB f (c.args.toList.map (opG E.G)) s k
    | .value x => callCB (opG E.G x) (c.args.toList.map (opG E.G)) s k
    | _ => slowC E o s k
  | _ => slowC E o s k
theorem argsR_eq (G : Gl) (t : T AV) : ∀ xs : List Operand, argsR (xs.map (opG G)) t = mapO (evalO G t) xs
  | [] => rfl
  | x :: r => by
    have ih := argsR_eq G t r
    show Option.rec (motive := fun _ => Option (List AV)) none (fun a => consO a (argsR (r.map (opG G)) t)) ((opG G x).g t) = _
    rw [ih, opG_ok]
    simp only [mapO]
    cases evalO G t x <;> cases mapO (evalO G t) r <;> rfl
section
variable {E : Env} {n : Nat} {o : Oper} {s : SB} {k : Bx} {ck : CallK} {t : T AV} {d : List Dfr} {S : St}
theorem retX_ok (hs : dstS n o.dst = some s) (r : R) : retX s k ck t d r = contX k.c ck (match r with
      | .ret a S'' => putA n ⟨t, d⟩ o.dst a S''
      | .pan a S'' => .out (.pan a) ⟨t, d⟩ S''
      | .fail => .fail) := by
  cases r with
  | ret a S' => simp only [dstS_ok hs]; rfl
  | pan a S' => rfl
  | fail => rfl
theorem slowC_ok (hs : dstS n o.dst = some s) : (slowC E o s k).c ck t d S = contX k.c ck (stepT E ck n o ⟨t, d⟩ S) := by
  show yieldX s k ck t d (exec1R E t S o) = _
  rw [exec1R_eq]
  unfold stepT
  cases exec1 E t S o with
  | val a S' => simp only [dstS_ok hs]; rfl
  | skip S' => simp only [dstS_ok hs]; rfl
  | enter f args S' => exact retX_ok hs _
  | dfr fn caps args S' => simp only [dstS_ok hs]; rfl
  | pan a S' => rfl
  | fail => rfl
theorem st1_ok {P : Program} {sz : Nat} {ty : TypeId} {a b : AV} {kk : St → O} (hz : sizeT P ty = some sz) : st1 sz S b kk a = .fail ∨ ∃ S', oStore P S ty a b = some S' ∧ st1 sz S b kk a = kk S' := by
  unfold st1
  cases hp : a.pv with
  | p id off =>
    rw [pv_p hp]
    show Bool.rec (motive := fun _ => O) .fail (stC S id off b kk (S.mem.get id)) (okPart b sz) = .fail ∨ ∃ S', _ ∧ Bool.rec (motive := fun _ => O) .fail (stC S id off b kk (S.mem.get id)) (okPart b sz) = kk S'
    cases hk : okPart b sz with
    | false => exact .inl rfl
    | true =>
      obtain ⟨k1, k2⟩ := okPart_true hk
      show stC S id off b kk (S.mem.get id) = .fail ∨ ∃ S', _ ∧ stC S id off b kk (S.mem.get id) = kk S'
      cases hm : S.mem.get id with
      | none => exact .inl rfl
      | some c =>
        cases c with
        | box cs =>
          show Option.rec (motive := fun _ => O) .fail (fun r => kk ⟨S.next, S.mem.set id (some (.box r))⟩) (overAtR off (cellsR b) cs) = .fail ∨ ∃ S', _ ∧ Option.rec (motive := fun _ => O) .fail (fun r => kk ⟨S.next, S.mem.set id (some (.box r))⟩) (overAtR off (cellsR b) cs) = kk S'
          cases ho : overAtR off (cellsR b) cs with
          | none => exact .inl rfl
          | some r =>
            obtain ⟨k3, k4⟩ := overAtR_some _ _ _ _ ho
            rw [cellsR_eq] at k3 k4
            refine .inr ⟨⟨S.next, S.mem.set id (some (.box r))⟩, ?_, rfl⟩
            simp only [oStore, hm, hz, k1, k2, beq_self_eq_true, Bool.true_and]
            rw [if_pos (by rw [k2] at k3; simpa using k3), k4, k2]
        | tip m => exact .inl rfl
        | mp es => exact .inl rfl
  | e => exact .inl rfl
  | n => exact .inl rfl
  | l => exact .inl rfl
  | a => exact .inl rfl
  | t => exact .inl rfl
  | no => exact .inl rfl
  | w => exact .inl rfl
theorem coreB_ok (hck : CkF E ck) (hs : dstS n o.dst = some s) : Rf ((coreB E o s k).c ck t d S) (contX k.c ck (stepT E ck n o ⟨t, d⟩ S)) := by
  have slow : Rf ((slowC E o s k).c ck t d S) (contX k.c ck (stepT E ck n o ⟨t, d⟩ S)) := .inr (slowC_ok hs)
  unfold coreB
  split
  · rename_i hl
    show Rf (Option.rec (motive := fun _ => O) .fail (fun a => k.c ck (s.s t a) d S) ((valV E o).v t S)) _
    cases hv : (valV E o).v t S with
    | none => exact .inl rfl
    | some a =>
      have := valV_ok hl t S a hv
      refine .inr ?_
      simp only [stepT, this, dstS_ok hs]; rfl
  · split
    · rename_i ty x y ho
      split
      · rename_i sz hz
        show Rf (Option.rec (motive := fun _ => O) .fail (fun a => Option.rec (motive := fun _ => O) .fail (fun b => st1 sz S b (fun S' => k.c ck (s.s t (.tup [])) d S') a) ((opG E.G y).g t)) ((opG E.G x).g t)) _
        rw [opG_ok, opG_ok]
        cases hx : evalO E.G t x with
        | none => exact .inl rfl
        | some a =>
          cases hy : evalO E.G t y with
          | none => exact .inl rfl
          | some b =>
            show Rf (st1 sz S b (fun S' => k.c ck (s.s t (.tup [])) d S') a) _
            rcases st1_ok (S := S) (a := a) (b := b) (kk := fun S' => k.c ck (s.s t (.tup [])) d S') hz with h | ⟨S', h1, h2⟩
            · exact .inl h
            · refine .inr (h2.trans ?_)
              simp only [stepT, exec1, ho, hx, hy, h1, dstS_ok hs]; rfl
      · exact .inl rfl
    · rename_i e ho
      split
      · rename_i z hz
        refine .inr ?_
        unfold zeroOf at hz
        split at hz
        · rename_i i hi
          split at hz
          · rename_i z0 hz0
            split at hz
            · rename_i a ha
              split at hz
              · rename_i hn
                injection hz with hz; subst hz
                simp only [stepT, exec1, ho, oAlloc, hi, hz0, ha, if_pos hn, ofOptS, dstS_ok hs]; rfl
              · cases hz
            · cases hz
          · cases hz
        · cases hz
      · exact .inl rfl
    · rename_i e x ho
      show Rf (Option.rec (motive := fun _ => O) .fail (fun a => Bool.rec (motive := fun _ => O) .fail (k.c ck (s.s t (.ptr S.next 0)) d ⟨Nat.succ S.next, S.mem.set S.next (some (.box (cellsR a)))⟩) (noTupR a)) ((opG E.G x).g t)) _
      rw [opG_ok]
      cases hx : evalO E.G t x with
      | none => exact .inl rfl
      | some a =>
        show Rf (Bool.rec (motive := fun _ => O) .fail (k.c ck (s.s t (.ptr S.next 0)) d ⟨Nat.succ S.next, S.mem.set S.next (some (.box (cellsR a)))⟩) (noTupR a)) _
        rw [noTupR_eq, cellsR_eq]
        cases hn : a.noTup with
        | false => exact .inl rfl
        | true =>
          refine .inr ?_
          simp only [stepT, exec1, ho, hx, if_pos hn, dstS_ok hs]; rfl
    · rename_i c ho
      have fnc : ∀ (g : AV) (l : List AV), (∃ x, c.callee = .value x ∧ evalO E.G t x = some g) → mapO (evalO E.G t) c.args.toList = some l → Rf (callC1 s k ck t d S l g) (contX k.c ck (stepT E ck n o ⟨t, d⟩ S)) := by
        rintro g l ⟨x, hc, hx⟩ hl
        unfold callC1
        split
        · rename_i f first caps
          cases hF : E.F f with
          | none =>
            have : ck f (first ++ l ++ caps) S = .fail := by
              cases hr : ck f (first ++ l ++ caps) S with
              | fail => rfl
              | ret a S' => have := hck f (first ++ l ++ caps) S (by rw [hr]; exact fun e => by cases e); rw [hF] at this; cases this
              | pan a S' => have := hck f (first ++ l ++ caps) S (by rw [hr]; exact fun e => by cases e); rw [hF] at this; cases this
            rw [this]; exact .inl rfl
          | some fn =>
            refine .inr ?_
            rw [retX_ok hs]
            simp only [stepT, exec1, ho, callA, hc, hx, hl, hF]
        · exact .inl rfl
      split
      · rename_i f hc
        show Rf (Option.rec (motive := fun _ => O) .fail (fun l => retX s k ck t d (ck f l S)) (argsR (c.args.toList.map (opG E.G)) t)) _
        rw [argsR_eq]
        cases hl : mapO (evalO E.G t) c.args.toList with
        | none => exact .inl rfl
        | some l =>
          have := fnc (.fn (.func f) [] []) l ⟨_, hc, rfl⟩ hl
          simpa [callC1] using this
      · rename_i x hc hne
        show Rf (Option.rec (motive := fun _ => O) .fail (fun a => Option.rec (motive := fun _ => O) .fail (fun l => callC1 s k ck t d S l a) (argsR (c.args.toList.map (opG E.G)) t)) ((opG E.G x).g t)) _
        rw [argsR_eq, opG_ok]
        cases hx : evalO E.G t x with
        | none => exact .inl rfl
        | some g =>
          cases hl : mapO (evalO E.G t) c.args.toList with
          | none => exact .inl rfl
          | some l => exact fnc g l ⟨x, hne, hx⟩ hl
      · exact slow
    · exact slow
/-- Guards. -/
def skipB (s : SB) (k : Bx) : Bx := ⟨fun ck t d S => k.c ck (s.s t (.tup [])) d S⟩
def isTup (a : AV) : Bool := PV.rec (motive := fun _ => Bool) (fun _ _ => false) (fun _ => false) false (fun _ _ _ _ => false) (fun _ => false) (fun _ => true) false (fun _ _ _ _ => false) a.pv
def sameB (x y : Bool) : Bool := Bool.rec (motive := fun _ => Bool) (notR y) y x
def guard1 (want : Bool) (x y : Bx) (a : AV) : Bx := SV.rec (motive := fun _ => Bx) (fun b => Bool.rec (motive := fun _ => Bx) y x (sameB b want)) (fun _ _ => failB) (fun _ => failB) (Bool.rec (motive := fun _ => Bx) failB y (isTup a)) a.sv
def guardB (g : GB) (want : Bool) (x y : Bx) : Bx := ⟨fun ck t d S => Option.rec (motive := fun _ => O) .fail (fun a => (guard1 want x y a).c ck t d S) (g.g t)⟩
def opB (E : Env) (n : Nat) (ops : Array Oper) (o : Oper) (k : Bx) : Bx := match dstS n o.dst with
  | none => failB
  | some s => match o.guard with
    | none => coreB E o s k
    | some (j, want) => match (ops[j]?).bind (·.dst) with
      | none => skipB s k
      | some d => guardB (getG d) want (coreB E o s k) (skipB s k)
theorem opB_ok {ops : Array Oper} (hck : CkF E ck) : Rf ((opB E n ops o k).c ck t d S) (contX k.c ck (stepO E ck n ops o ⟨t, d⟩ S)) := by
  unfold opB
  split
  · exact .inl rfl
  · rename_i s hs
    have skip : (skipB s k).c ck t d S = contX k.c ck (putA n ⟨t, d⟩ o.dst (.tup []) S) := by rw [dstS_ok hs]; rfl
    have core := coreB_ok (E := E) (n := n) (o := o) (k := k) (t := t) (d := d) (S := S) hck hs
    split
    · rename_i hg
      have : stepO E ck n ops o ⟨t, d⟩ S = stepT E ck n o ⟨t, d⟩ S := by unfold stepO wantedA; rw [hg]; rfl
      rw [this]; exact core
    · rename_i j want hg
      split
      · rename_i hj
        have : stepO E ck n ops o ⟨t, d⟩ S = putA n ⟨t, d⟩ o.dst (.tup []) S := by unfold stepO wantedA; rw [hg]; simp only [hj]
        rw [this]; exact .inr skip
      · rename_i d0 hj
        show Rf (Option.rec (motive := fun _ => O) .fail (fun a => (guard1 want (coreB E o s k) (skipB s k) a).c ck t d S) ((getG d0).g t)) _
        rw [getG_ok]
        cases hx : t.get d0 with
        | none => exact .inl rfl
        | some a =>
          show Rf ((guard1 want (coreB E o s k) (skipB s k) a).c ck t d S) _
          unfold guard1
          cases hv : a.sv with
          | b b =>
            have ha := sv_b hv
            subst ha
            have hw : wantedA ops o t = some (b == want) := by unfold wantedA; rw [hg]; simp only [hj, hx]
            show Rf ((Bool.rec (motive := fun _ => Bx) (skipB s k) (coreB E o s k) (sameB b want)).c ck t d S) _
            have hb : sameB b want = (b == want) := by cases b <;> cases want <;> rfl
            rw [hb]
            cases hbw : (b == want) with
            | false =>
              have : stepO E ck n ops o ⟨t, d⟩ S = putA n ⟨t, d⟩ o.dst (.tup []) S := by unfold stepO; simp only [hw, hbw]
              rw [this]; exact .inr skip
            | true =>
              have : stepO E ck n ops o ⟨t, d⟩ S = stepT E ck n o ⟨t, d⟩ S := by unfold stepO; simp only [hw, hbw]; rfl
              rw [this]; exact core
          | i => exact .inl rfl
          | s => exact .inl rfl
          | no =>
            show Rf ((Bool.rec (motive := fun _ => Bx) failB (skipB s k) (isTup a)).c ck t d S) _
            cases hp : a.pv with
            | t vs =>
              have : isTup a = true := by unfold isTup; rw [hp]
              rw [this]
              have ha := pv_t hp
              subst ha
              have hw : wantedA ops o t = some false := by unfold wantedA; rw [hg]; simp only [hj, hx]
              have : stepO E ck n ops o ⟨t, d⟩ S = putA n ⟨t, d⟩ o.dst (.tup []) S := by unfold stepO; simp only [hw]
              rw [this]; exact .inr skip
            | p => have : isTup a = false := by unfold isTup; rw [hp]
                   rw [this]; exact .inl rfl
            | e => have : isTup a = false := by unfold isTup; rw [hp]
                   rw [this]; exact .inl rfl
            | n => have : isTup a = false := by unfold isTup; rw [hp]
                   rw [this]; exact .inl rfl
            | l => have : isTup a = false := by unfold isTup; rw [hp]
                   rw [this]; exact .inl rfl
            | a => have : isTup a = false := by unfold isTup; rw [hp]
                   rw [this]; exact .inl rfl
            | no => have : isTup a = false := by unfold isTup; rw [hp]
                    rw [this]; exact .inl rfl
            | w => have : isTup a = false := by unfold isTup; rw [hp]
                   rw [this]; exact .inl rfl
def opsB (E : Env) (n : Nat) (ops : Array Oper) (l : List Oper) : Bx → Bx := List.rec (motive := fun _ => Bx → Bx) (fun k => k) (fun o _ ih k => opB E n ops o (ih k)) l
end
theorem opsB_ok {E : Env} {n : Nat} {ops : Array Oper} {ck : CallK} (hck : CkF E ck) (k : Bx) : ∀ (l : List Oper) (t : T AV) (d : List Dfr) (S : St), Rf ((opsB E n ops l k).c ck t d S) (contX k.c ck (runL E ck n ops l ⟨t, d⟩ S))
  | [], t, d, S => .inr rfl
  | o :: r, t, d, S => by
    have h := opB_ok (E := E) (n := n) (o := o) (ops := ops) (k := opsB E n ops r k) (t := t) (d := d) (S := S) hck
    show Rf ((opB E n ops o (opsB E n ops r k)).c ck t d S) _
    rcases h with h | h
    · exact .inl h
    · rw [h]
      unfold runL
      cases stepO E ck n ops o ⟨t, d⟩ S with
      | fail => exact .inl rfl
      | out e f' S' =>
        cases e with
        | normal => exact opsB_ok hck k r f'.tmps f'.dfr S'
        | exit i => exact .inr rfl
        | ret => exact .inr rfl
        | pan a => exact .inr rfl
/-- What was seen is still so. -/
def re1 (k : Bx) (ck : CallK) (t : T AV) (d : List Dfr) (S : St) (b a : Option AV) : O := Option.rec (motive := fun _ => O) .fail (fun b => Option.rec (motive := fun _ => O) .fail (fun a => Bool.rec (motive := fun _ => O) .fail (k.c ck t d S) (beqA b a)) a) b
def reB (E : Env) (ops : Array Oper) (o : Oper) (k : Bx) : Bx := match o.guard, o.dst, isLook o with
  | none, some d0, true => ⟨fun ck t d S => re1 k ck t d S ((getG d0).g t) ((valV E o).v t S)⟩
  | _, _, _ => ⟨fun ck t d S => Bool.rec (motive := fun _ => O) .fail (k.c ck t d S) (againO E ops o t S)⟩
theorem reB_ok {E : Env} {ops : Array Oper} {o : Oper} {k : Bx} {ck : CallK} {t : T AV} {d : List Dfr} {S : St} : Rf ((reB E ops o k).c ck t d S) (if againO E ops o t S then k.c ck t d S else .fail) := by
  have slow : Rf (Bool.rec (motive := fun _ => O) .fail (k.c ck t d S) (againO E ops o t S)) (if againO E ops o t S then k.c ck t d S else .fail) := by
    cases againO E ops o t S <;> exact .inr rfl
  unfold reB
  split
  · rename_i d0 hg hd hl
    show Rf (re1 k ck t d S ((getG d0).g t) ((valV E o).v t S)) _
    rw [getG_ok]
    cases hb : t.get d0 with
    | none => exact .inl rfl
    | some b =>
      cases hv : (valV E o).v t S with
      | none => exact .inl rfl
      | some a =>
        have h1 := valV_ok hl t S a hv
        have h2 : lookV E ops o t S = some a := by unfold lookV wantedA; rw [hg]; simp only [h1]
        have h3 : againO E ops o t S = beqA b a := by unfold againO; rw [h2, hd]; simp only [hb]
        rw [h3]
        show Rf (Bool.rec (motive := fun _ => O) .fail (k.c ck t d S) (beqA b a)) _
        cases beqA b a <;> exact .inr rfl
  · exact slow
def rsB (E : Env) (n : Nat) (ops : Array Oper) (l : List RS) : Bx → Bx := List.rec (motive := fun _ => Bx → Bx) (fun k => k) (fun s _ ih k => RS.rec (motive := fun _ => Bx) (fun o => opB E n ops o (ih k)) (fun o => reB E ops o (ih k)) s) l
theorem rsB_ok {E : Env} {n : Nat} {ops : Array Oper} {ck : CallK} (hck : CkF E ck) (k : Bx) : ∀ (l : List RS) (t : T AV) (d : List Dfr) (S : St), Rf ((rsB E n ops l k).c ck t d S) (contX k.c ck (runRS E ck n ops l ⟨t, d⟩ S))
  | [], t, d, S => .inr rfl
  | .op o :: r, t, d, S => by
    have h := opB_ok (E := E) (n := n) (o := o) (ops := ops) (k := rsB E n ops r k) (t := t) (d := d) (S := S) hck
    show Rf ((opB E n ops o (rsB E n ops r k)).c ck t d S) _
    rcases h with h | h
    · exact .inl h
    · rw [h]
      have e : runRS E ck n ops (.op o :: r) ⟨t, d⟩ S = match stepO E ck n ops o ⟨t, d⟩ S with
        | .out .normal f' S' => runRS E ck n ops r f' S'
        | r => r := rfl
      rw [e]
      cases stepO E ck n ops o ⟨t, d⟩ S with
      | fail => exact .inl rfl
      | out e f' S' =>
        cases e with
        | normal => exact rsB_ok hck k r f'.tmps f'.dfr S'
        | exit i => exact .inr rfl
        | ret => exact .inr rfl
        | pan a => exact .inr rfl
  | .re o :: r, t, d, S => by
    have h := reB_ok (E := E) (o := o) (ops := ops) (k := rsB E n ops r k) (ck := ck) (t := t) (d := d) (S := S)
    show Rf ((reB E ops o (rsB E n ops r k)).c ck t d S) _
    have e : runRS E ck n ops (.re o :: r) ⟨t, d⟩ S = if againO E ops o t S then runRS E ck n ops r ⟨t, d⟩ S else .fail := rfl
    rw [e]
    rcases h with h | h
    · exact .inl h
    · rw [h]
      cases againO E ops o t S with
      | false => exact .inl rfl
      | true => exact rsB_ok hck k r t d S
def drawS (E : Env) (n : Nat) (ops : Array Oper) (k : Bx) : Bx := ⟨fun ck t d S => contX k.c ck (drawnR E ck n ops ⟨t, d⟩ S)⟩
def onlyLooks (l : List RS) : Bool := l.all fun s => match s with
  | .op o => isLook o
  | .re _ => true
def fixB (E : Env) (n : Nat) (ops : Array Oper) (l : List RS) (k : Bx) : Bx := ⟨fun ck t d S => contX k.c ck (fixX ⟨eraseT ops.toList t, d⟩ ((rsB E n ops l normB).c ck t d S))⟩
def drawO (E : Env) (n : Nat) (ops : Array Oper) (k : Bx) : Bx :=
  let ms := bm ops.toList []
  let order := eager ops ms ops.size (List.range ops.size) 0
  if static ops ms order then (match stepsD ops ms order [] with
    | some rs => if onlyLooks rs then rsB E n ops rs k else fixB E n ops rs k
    | none => drawS E n ops k) else drawS E n ops k
def drawF (E : Env) (n : Nat) (ops : Array Oper) (x : FlP) (k : Bx) : Bx := match allSteps ops x with
  | some rs => if x.d < n then ⟨fun ck t d S => contX k.c ck (fixX ⟨eraseT ops.toList t, d⟩ ((rsB E n ops rs normB).c ck (T.set t x.d none) d S))⟩ else failB
  | none => failB
def drawM (E : Env) (n : Nat) (ops : Array Oper) (x : MkX) (k : Bx) : Bx := match mkSteps ops x with
  | some rs => if mkFit E.P n ops x = true then ⟨fun ck t d S => contX k.c ck (fixX ⟨eraseT ops.toList t, d⟩ ((rsB E n ops rs normB).c ck (clearT E.P ops x.mks t) d S))⟩ else failB
  | none => failB
def drawB (E : Env) (n : Nat) (ops : Array Oper) (k : Bx) : Bx := match flFind E.P ops with
  | some x => drawF E n ops x k
  | none => match mkFind E.P ops with
    | some x => drawM E n ops x k
    | none => drawO E n ops k
theorem contX_norm (ck : CallK) (r : O) : contX normB.c ck r = r := by
  cases r with
  | fail => rfl
  | out e f S => cases e <;> rfl
theorem runRS_looks {E : Env} {ck : CallK} {n : Nat} {ops : Array Oper} {fb : Fr} : ∀ (l : List RS) (f : Fr) (S : St), onlyLooks l = true → fixX fb (runRS E ck n ops l f S) = runRS E ck n ops l f S
  | [], f, S, h => rfl
  | .op o :: r, f, S, h => by
    unfold onlyLooks at h
    rw [List.all_cons, Bool.and_eq_true] at h
    have e : runRS E ck n ops (.op o :: r) f S = match stepO E ck n ops o f S with
        | .out .normal f' S' => runRS E ck n ops r f' S'
        | r => r := rfl
    rw [e, stepO_eq, stepR_look h.1]
    cases lookV E ops o f.tmps S with
    | none => rfl
    | some a =>
      simp only
      rw [putA_eq]
      cases okD n o.dst with
      | false => rfl
      | true => exact runRS_looks r _ S h.2
  | .re o :: r, f, S, h => by
    unfold onlyLooks at h
    rw [List.all_cons, Bool.and_eq_true] at h
    have e : runRS E ck n ops (.re o :: r) f S = if againO E ops o f.tmps S then runRS E ck n ops r f S else .fail := rfl
    rw [e]
    cases againO E ops o f.tmps S with
    | false => rfl
    | true => exact runRS_looks r f S h.2
theorem drawO_ok {E : Env} {n : Nat} {ops : Array Oper} {ck : CallK} (hck : CkF E ck) (k : Bx) (t : T AV) (d : List Dfr) (S : St) : Rf ((drawO E n ops k).c ck t d S) (contX k.c ck (drawnRun E ck n ops ⟨t, d⟩ S)) := by
  have slow : Rf ((drawS E n ops k).c ck t d S) (contX k.c ck (drawnRun E ck n ops ⟨t, d⟩ S)) := by
    refine .inr ?_
    show contX k.c ck (drawnR E ck n ops ⟨t, d⟩ S) = _
    rw [drawnR_eq]
  unfold drawO
  simp only
  split
  · rename_i hst
    split
    · rename_i rs hrs
      have e : runRS E ck n ops rs ⟨t, d⟩ S = .fail ∨ drawnRun E ck n ops ⟨t, d⟩ S = fixX ⟨eraseT ops.toList t, d⟩ (runRS E ck n ops rs ⟨t, d⟩ S) := by
        unfold drawnRun
        simp only
        rw [if_pos hst]
        exact drun_steps _ rs _ _ [] hrs (fun _ h => absurd h List.not_mem_nil)
      split
      · rename_i hlk
        have h := rsB_ok (E := E) (n := n) (ops := ops) hck k rs t d S
        rcases h with h | h
        · exact .inl h
        · rw [h]
          rcases e with e | e
          · rw [e]; exact .inl rfl
          · rw [e, runRS_looks rs _ _ hlk]; exact .inr rfl
      · have h := rsB_ok (E := E) (n := n) (ops := ops) hck normB rs t d S
        rw [contX_norm] at h
        show Rf (contX k.c ck (fixX ⟨eraseT ops.toList t, d⟩ ((rsB E n ops rs normB).c ck t d S))) _
        rcases h with h | h
        · rw [h]; exact .inl rfl
        · rw [h]
          rcases e with e | e
          · rw [e]; exact .inl rfl
          · rw [e]; exact .inr rfl
    · exact slow
  · exact slow
theorem drawB_ok {E : Env} {n : Nat} {ops : Array Oper} {ck : CallK} (hck : CkF E ck) (k : Bx) (t : T AV) (d : List Dfr) (S : St) : Rf ((drawB E n ops k).c ck t d S) (contX k.c ck (drawnNew E ck n ops ⟨t, d⟩ S)) := by
  cases hx : flFind E.P ops with
  | some x =>
    have e1 : drawB E n ops k = drawF E n ops x k := by unfold drawB; rw [hx]
    have e2 : drawnNew E ck n ops ⟨t, d⟩ S = drawnFl E x ck n ops ⟨t, d⟩ S := by unfold drawnNew; rw [hx]
    rw [e1, e2]
    unfold drawF drawnFl
    cases hrs : allSteps ops x with
    | none => exact .inl rfl
    | some rs =>
      simp only
      split
      · have h := rsB_ok (E := E) (n := n) (ops := ops) hck normB rs (T.set t x.d none) d S
        rw [contX_norm] at h
        show Rf (contX k.c ck (fixX ⟨eraseT ops.toList t, d⟩ ((rsB E n ops rs normB).c ck (T.set t x.d none) d S))) _
        rcases h with h | h
        · rw [h]; exact .inl rfl
        · rw [h]; exact .inr rfl
      · exact .inl rfl
  | none =>
    cases hy : mkFind E.P ops with
    | some x =>
      have e1 : drawB E n ops k = drawM E n ops x k := by unfold drawB; rw [hx]; simp only [hy]
      have e2 : drawnNew E ck n ops ⟨t, d⟩ S = drawnMk E x ck n ops ⟨t, d⟩ S := by unfold drawnNew; rw [hx]; simp only [hy]
      rw [e1, e2]
      unfold drawM drawnMk
      cases hrs : mkSteps ops x with
      | none => exact .inl rfl
      | some rs =>
        simp only
        cases hc : mkFit E.P n ops x with
        | true =>
          have h := rsB_ok (E := E) (n := n) (ops := ops) hck normB rs (clearT E.P ops x.mks t) d S
          rw [contX_norm] at h
          rw [if_pos rfl, if_pos rfl]
          show Rf (contX k.c ck (fixX ⟨eraseT ops.toList t, d⟩ ((rsB E n ops rs normB).c ck (clearT E.P ops x.mks t) d S))) _
          rcases h with h | h
          · rw [h]; exact .inl rfl
          · rw [h]; exact .inr rfl
        | false => rw [if_neg (by simp), if_neg (by simp)]; exact .inl rfl
    | none =>
      have e1 : drawB E n ops k = drawO E n ops k := by unfold drawB; rw [hx]; simp only [hy]
      have e2 : drawnNew E ck n ops ⟨t, d⟩ S = drawnRun E ck n ops ⟨t, d⟩ S := by unfold drawnNew; rw [hx]; simp only [hy]
      rw [e1, e2]
      exact drawO_ok hck k t d S
def drawnNewR (E : Env) : Drawn := fun ck n ops f S => match flFind E.P ops with
  | some x => drawnFl E x ck n ops f S
  | none => match mkFind E.P ops with
    | some x => drawnMk E x ck n ops f S
    | none => drawnR E ck n ops f S
theorem drawnNewR_eq (E : Env) : drawnNewR E = drawnNew E := by
  unfold drawnNewR
  rw [drawnR_eq]
  rfl
end Go.Ax
