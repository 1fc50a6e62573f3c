/-
  Operations that write, calls, code, functions, made ready: all runs are the slow ones.
-/
import Derived.Test.YtbchlfdjedbfhaaDoorWG7
set_option linter.unusedVariables false
set_option linter.unusedSimpArgs false
noncomputable section
namespace Go.Ax
open Go.RowKit
set_option linter.unusedVariables false
set_option linter.unusedSimpArgs false
def contX (k : Ck) (ck : CallK) (r : O) : O := O.rec (motive := fun _ => O) (fun e f S => Ex.rec (motive := fun _ => O) (k ck f.tmps f.dfr S) (fun i => .out (.exit i) f S) (.out .ret f S) (fun a => .out (.pan a) f S) e) .fail r
def failB : Bx := ⟨fun _ _ _ _ => .fail⟩
def normB : Bx := ⟨fun _ t d S => .out .normal ⟨t, d⟩ S⟩
def idS : SB := ⟨fun t _ => t⟩
def dstS (n : Nat) (dst : Option Tmp) : Option SB := match dst with
  | none => some idS
  | some d => if d < n then some (setS d) else none
theorem dstS_ok {n : Nat} {dst : Option Tmp} {s : SB} (h : dstS n dst = some s) (t : T AV) (d : List Dfr) (a : AV) (S : St) : putA n ⟨t, d⟩ dst a S = .out .normal ⟨s.s t a, d⟩ S := by
  cases dst with
  | none => injection h with h; subst h; rfl
  | some x =>
    simp only [dstS] at h
    split at h
    · rename_i hx
      injection h with h; subst h
      simp only [putA, if_pos hx, setS_ok]
    · cases h
def Rf (x y : O) : Prop := x = .fail ∨ x = y
theorem Rf.refl (x : O) : Rf x x := .inr rfl
def CkF (E : Env) (ck : CallK) : Prop := ∀ k args S, ck k args S ≠ .fail → (E.F k).isSome = true
/-- An operation that is wanted. -/
def stepT (E : Env) (callK : CallK) (n : Nat) (o : Oper) (f : Fr) (S : St) : O := match exec1 E f.tmps S o with
    | .val a S' => putA n f o.dst a S'
    | .skip S' => putA n f o.dst (.tup []) S'
    | .enter k args S' => match callK k args S' with
      | .ret a S'' => putA n f o.dst a S''
      | .pan a S'' => .out (.pan a) f S''
      | .fail => .fail
    | .dfr fn caps args S' => putA n { f with dfr := ⟨fn, caps, args⟩ :: f.dfr } o.dst (.tup []) S'
    | .pan a S' => .out (.pan a) f S'
    | .fail => .fail
def retX (s : SB) (k : Bx) (ck : CallK) (t : T AV) (d : List Dfr) (r : R) : O := R.rec (motive := fun _ => O) (fun a S => k.c ck (s.s t a) d S) (fun a S => .out (.pan a) ⟨t, d⟩ S) .fail r
def yieldX (s : SB) (k : Bx) (ck : CallK) (t : T AV) (d : List Dfr) (r : OR) : O := OR.rec (motive := fun _ => O) (fun a S => k.c ck (s.s t a) d S) (fun S => k.c ck (s.s t (.tup [])) d S) (fun f args S => retX s k ck t d (ck f args S)) (fun fn caps args S => k.c ck (s.s t (.tup [])) (⟨fn, caps, args⟩ :: d) S) (fun a S => .out (.pan a) ⟨t, d⟩ S) .fail r
def slowC (E : Env) (o : Oper) (s : SB) (k : Bx) : Bx := ⟨fun ck t d S => yieldX s k ck t d (exec1R E t S o)⟩
def lookB (v : VB) (s : SB) (k : Bx) : Bx := ⟨fun ck t d S => Option.rec (motive := fun _ => O) .fail (fun a => k.c ck (s.s t a) d S) (v.v t S)⟩
def stC (S : St) (id off : Nat) (b : AV) (kk : St → O) (c : Option Cell) : O := Option.rec (motive := fun _ => O) .fail (fun c => Cell.rec (motive := fun _ => O) (fun cs => Option.rec (motive := fun _ => O) .fail (fun r => kk ⟨S.next, S.mem.set id (some (.box r))⟩) (overAtR off (cellsR b) cs)) (fun _ => .fail) (fun _ => .fail) c) c
def st1 (sz : Nat) (S : St) (b : AV) (kk : St → O) (a : AV) : O := PV.rec (motive := fun _ => O) (fun id off => Bool.rec (motive := fun _ => O) .fail (stC S id off b kk (S.mem.get id)) (okPart b sz)) (fun _ => .fail) .fail (fun _ _ _ _ => .fail) (fun _ => .fail) (fun _ => .fail) .fail (fun _ _ _ _ => .fail) a.pv
def storeB (sz : Nat) (gx gy : GB) (s : SB) (k : Bx) : Bx := ⟨fun ck t d S => Option.rec (motive := fun _ => O) .fail (fun a => Option.rec (motive := fun _ => O) .fail (fun b => st1 sz S b (fun S' => k.c ck (s.s t (.tup [])) d S') a) (gy.g t)) (gx.g t)⟩
def argsR (l : List GB) (t : T AV) : Option (List AV) := List.rec (motive := fun _ => Option (List AV)) (some []) (fun g _ ih => Option.rec (motive := fun _ => Option (List AV)) none (fun a => consO a ih) (g.g t)) l
def callFB (f : FuncId) (args : List GB) (s : SB) (k : Bx) : Bx := ⟨fun ck t d S => Option.rec (motive := fun _ => O) .fail (fun l => retX s k ck t d (ck f l S)) (argsR args t)⟩
def callC1 (s : SB) (k : Bx) (ck : CallK) (t : T AV) (d : List Dfr) (S : St) (args : List AV) (a : AV) : O := match a with
  | .fn (.func f) first caps => retX s k ck t d (ck f (first ++ args ++ caps) S)
  | _ => .fail
def callCB (g : GB) (args : List GB) (s : SB) (k : Bx) : Bx := ⟨fun ck t d S => Option.rec (motive := fun _ => O) .fail (fun a => Option.rec (motive := fun _ => O) .fail (fun l => callC1 s k ck t d S l a) (argsR args t)) (g.g t)⟩
def allocB (z : List AV) (s : SB) (k : Bx) : Bx := ⟨fun ck t d S => k.c ck (s.s t (.ptr S.next 0)) d ⟨Nat.succ S.next, S.mem.set S.next (some (.box z))⟩⟩
def boxB (g : GB) (s : SB) (k : Bx) : Bx := ⟨fun ck t d S => Option.rec (motive := fun _ => O) .fail (fun a => Bool.rec (motive := fun _ => O) .fail (k.c ck (s.s t (.ptr S.next 0)) d ⟨Nat.succ S.next, S.mem.set S.next (some (.box (cellsR a)))⟩) (noTupR a)) (g.g t)⟩
def zeroOf (P : Program) (e : TypeId) : Option (List AV) := match P.info? e with
  | some i => match i.zero with
    | some z => match ofConst 8 z with
      | some a => if a.noTup then some a.cells else none
      | none => none
    | none => none
  | none => none
def coreB (E : Env) (o : Oper) (s : SB) (k : Bx) : Bx := if isLook o then lookB (valV E o) s k else match o.op with
  | .store t x y => match sizeT E.P t with
    | some n => storeB n (opG E.G x) (opG E.G y) s k
    | none => failB
  | .alloc e => match zeroOf E.P e with
    | some z => allocB z s k
    | none => failB
  | .box _ x => boxB (opG E.G x) s k
  | .call c => match c.callee with
    | .value (.func f) => callFB f (c.args.toList.map (opG E.G)) s k
    | .value x => callCB (opG E.G x) (c.args.toList.map (opG E.G)) s k
    | _ => slowC E o s k
  | _ => slowC E o s k
theorem argsR_eq (G : Gl) (t : T AV) : ∀ xs : List Operand, argsR (xs.map (opG G)) t = mapO (evalO G t) xs
  | [] => rfl
  | x :: r => by
    have ih := argsR_eq G t r
    show Option.rec (motive := fun _ => Option (List AV)) none (fun a => consO a (argsR (r.map (opG G)) t)) ((opG G x).g t) = _
    rw [ih, opG_ok]
    simp only [mapO]
    cases evalO G t x <;> cases mapO (evalO G t) r <;> rfl
section
variable {E : Env} {n : Nat} {o : Oper} {s : SB} {k : Bx} {ck : CallK} {t : T AV} {d : List Dfr} {S : St}
theorem retX_ok (hs : dstS n o.dst = some s) (r : R) : retX s k ck t d r = contX k.c ck (match r with
      | .ret a S'' => putA n ⟨t, d⟩ o.dst a S''
      | .pan a S'' => .out (.pan a) ⟨t, d⟩ S''
      | .fail => .fail) := by
  cases r with
  | ret a S' => simp only [dstS_ok hs]; rfl
  | pan a S' => rfl
  | fail => rfl
theorem slowC_ok (hs : dstS n o.dst = some s) : (slowC E o s k).c ck t d S = contX k.c ck (stepT E ck n o ⟨t, d⟩ S) := by
  show yieldX s k ck t d (exec1R E t S o) = _
  rw [exec1R_eq]
  unfold stepT
  cases exec1 E t S o with
  | val a S' => simp only [dstS_ok hs]; rfl
  | skip S' => simp only [dstS_ok hs]; rfl
  | enter f args S' => exact retX_ok hs _
  | dfr fn caps args S' => simp only [dstS_ok hs]; rfl
  | pan a S' => rfl
  | fail => rfl
theorem st1_ok {P : Program} {sz : Nat} {ty : TypeId} {a b : AV} {kk : St → O} (hz : sizeT P ty = some sz) : st1 sz S b kk a = .fail ∨ ∃ S', oStore P S ty a b = some S' ∧ st1 sz S b kk a = kk S' := by
  unfold st1
  cases hp : a.pv with
  | p id off =>
    rw [pv_p hp]
    show Bool.rec (motive := fun _ => O) .fail (stC S id off b kk (S.mem.get id)) (okPart b sz) = .fail ∨ ∃ S', _ ∧ Bool.rec (motive := fun _ => O) .fail (stC S id off b kk (S.mem.get id)) (okPart b sz) = kk S'
    cases hk : okPart b sz with
    | false => exact .inl rfl
    | true =>
      obtain ⟨k1, k2⟩ := okPart_true hk
      show stC S id off b kk (S.mem.get id) = .fail ∨ ∃ S', _ ∧ stC S id off b kk (S.mem.get id) = kk S'
      cases hm : S.mem.get id with
      | none => exact .inl rfl
      | some c =>
        cases c with
        | box cs =>
          show Option.rec (motive := fun _ => O) .fail (fun r => kk ⟨S.next, S.mem.set id (some (.box r))⟩) (overAtR off (cellsR b) cs) = .fail ∨ ∃ S', _ ∧ Option.rec (motive := fun _ => O) .fail (fun r => kk ⟨S.next, S.mem.set id (some (.box r))⟩) (overAtR off (cellsR b) cs) = kk S'
          cases ho : overAtR off (cellsR b) cs with
          | none => exact .inl rfl
          | some r =>
            obtain ⟨k3, k4⟩ := overAtR_some _ _ _ _ ho
            rw [cellsR_eq] at k3 k4
            refine .inr ⟨⟨S.next, S.mem.set id (some (.box r))⟩, ?_, rfl⟩
            simp only [oStore, hm, hz, k1, k2, beq_self_eq_true, Bool.true_and]
            rw [if_pos (by rw [k2] at k3; simpa using k3), k4, k2]
        | tip m => exact .inl rfl
        | mp es => exact .inl rfl
  | e => exact .inl rfl
  | n => exact .inl rfl
  | l => exact .inl rfl
  | a => exact .inl rfl
  | t => exact .inl rfl
  | no => exact .inl rfl
  | w => exact .inl rfl
theorem coreB_ok (hck : CkF E ck) (hs : dstS n o.dst = some s) : Rf ((coreB E o s k).c ck t d S) (contX k.c ck (stepT E ck n o ⟨t, d⟩ S)) := by
  have slow : Rf ((slowC E o s k).c ck t d S) (contX k.c ck (stepT E ck n o ⟨t, d⟩ S)) := .inr (slowC_ok hs)
  unfold coreB
  split
  · rename_i hl
    show Rf (Option.rec (motive := fun _ => O) .fail (fun a => k.c ck (s.s t a) d S) ((valV E o).v t S)) _
    cases hv : (valV E o).v t S with
    | none => exact .inl rfl
    | some a =>
      have := valV_ok hl t S a hv
      refine .inr ?_
      simp only [stepT, this, dstS_ok hs]; rfl
  · split
    · rename_i ty x y ho
      split
      · rename_i sz hz
        show Rf (Option.rec (motive := fun _ => O) .fail (fun a => Option.rec (motive := fun _ => O) .fail (fun b => st1 sz S b (fun S' => k.c ck (s.s t (.tup [])) d S') a) ((opG E.G y).g t)) ((opG E.G x).g t)) _
        rw [opG_ok, opG_ok]
        cases hx : evalO E.G t x with
        | none => exact .inl rfl
        | some a =>
          cases hy : evalO E.G t y with
          | none => exact .inl rfl
          | some b =>
            show Rf (st1 sz S b (fun S' => k.c ck (s.s t (.tup [])) d S') a) _
            rcases st1_ok (S := S) (a := a) (b := b) (kk := fun S' => k.c ck (s.s t (.tup [])) d S') hz with h | ⟨S', h1, h2⟩
            · exact .inl h
            · refine .inr (h2.trans ?_)
              simp only [stepT, exec1, ho, hx, hy, h1, dstS_ok hs]; rfl
      · exact .inl rfl
    · rename_i e ho
      split
      · rename_i z hz
        refine .inr ?_
        unfold zeroOf at hz
        split at hz
        · rename_i i hi
          split at hz
          · rename_i z0 hz0
            split at hz
            · rename_i a ha
              split at hz
              · rename_i hn
                injection hz with hz; subst hz
                simp only [stepT, exec1, ho, oAlloc, hi, hz0, ha, if_pos hn, ofOptS, dstS_ok hs]; rfl
              · cases hz
            · cases hz
          · cases hz
        · cases hz
      · exact .inl rfl
    · rename_i e x ho
      show Rf (Option.rec (motive := fun _ => O) .fail (fun a => Bool.rec (motive := fun _ => O) .fail (k.c ck (s.s t (.ptr S.next 0)) d ⟨Nat.succ S.next, S.mem.set S.next (some (.box (cellsR a)))⟩) (noTupR a)) ((opG E.G x).g t)) _
      rw [opG_ok]
      cases hx : evalO E.G t x with
      | none => exact .inl rfl
      | some a =>
        show Rf (Bool.rec (motive := fun _ => O) .fail (k.c ck (s.s t (.ptr S.next 0)) d ⟨Nat.succ S.next, S.mem.set S.next (some (.box (cellsR a)))⟩) (noTupR a)) _
        rw [noTupR_eq, cellsR_eq]
        cases hn : a.noTup with
        | false => exact .inl rfl
        | true =>
          refine .inr ?_
          simp only [stepT, exec1, ho, hx, if_pos hn, dstS_ok hs]; rfl
    · rename_i c ho
      have fnc : ∀ (g : AV) (l : List AV), (∃ x, c.callee = .value x ∧ evalO E.G t x = some g) → mapO (evalO E.G t) c.args.toList = some l → Rf (callC1 s k ck t d S l g) (contX k.c ck (stepT E ck n o ⟨t, d⟩ S)) := by
        rintro g l ⟨x, hc, hx⟩ hl
        unfold callC1
        split
        · rename_i f first caps
          cases hF : E.F f with
          | none =>
            have : ck f (first ++ l ++ caps) S = .fail := by
              cases hr : ck f (first ++ l ++ caps) S with
              | fail => rfl
              | ret a S' => have := hck f (first ++ l ++ caps) S (by rw [hr]; exact fun e => by cases e); rw [hF] at this; cases this
              | pan a S' => have := hck f (first ++ l ++ caps) S (by rw [hr]; exact fun e => by cases e); rw [hF] at this; cases this
            rw [this]; exact .inl rfl
          | some fn =>
            refine .inr ?_
            rw [retX_ok hs]
            simp only [stepT, exec1, ho, callA, hc, hx, hl, hF]
        · exact .inl rfl
      split
      · rename_i f hc
        show Rf (Option.rec (motive := fun _ => O) .fail (fun l => retX s k ck t d (ck f l S)) (argsR (c.args.toList.map (opG E.G)) t)) _
        rw [argsR_eq]
        cases hl : mapO (evalO E.G t) c.args.toList with
        | none => exact .inl rfl
        | some l =>
          have := fnc (.fn (.func f) [] []) l ⟨_, hc, rfl⟩ hl
          simpa [callC1] using this
      · rename_i x hc hne
        show Rf (Option.rec (motive := fun _ => O) .fail (fun a => Option.rec (motive := fun _ => O) .fail (fun l => callC1 s k ck t d S l a) (argsR (c.args.toList.map (opG E.G)) t)) ((opG E.G x).g t)) _
        rw [argsR_eq, opG_ok]
        cases hx : evalO E.G t x with
        | none => exact .inl rfl
        | some g =>
          cases hl : mapO (evalO E.G t) c.args.toList with
          | none => exact .inl rfl
          | some l => exact fnc g l ⟨x, hne, hx⟩ hl
      · exact slow
    · exact slow
/-- Guards. -/
def skipB (s : SB) (k : Bx) : Bx := ⟨fun ck t d S => k.c ck (s.s t (.tup [])) d S⟩
def isTup (a : AV) : Bool := PV.rec (motive := fun _ => Bool) (fun _ _ => false) (fun _ => false) false (fun _ _ _ _ => false) (fun _ => false) (fun _ => true) false (fun _ _ _ _ => false) a.pv
def sameB (x y : Bool) : Bool := Bool.rec (motive := fun _ => Bool) (notR y) y x
def guard1 (want : Bool) (x y : Bx) (a : AV) : Bx := SV.rec (motive := fun _ => Bx) (fun b => Bool.rec (motive := fun _ => Bx) y x (sameB b want)) (fun _ _ => failB) (fun _ => failB) (Bool.rec (motive := fun _ => Bx) failB y (isTup a)) a.sv
def guardB (g : GB) (want : Bool) (x y : Bx) : Bx := ⟨fun ck t d S => Option.rec (motive := fun _ => O) .fail (fun a => (guard1 want x y a).c ck t d S) (g.g t)⟩
def opB (E : Env) (n : Nat) (ops : Array Oper) (o : Oper) (k : Bx) : Bx := match dstS n o.dst with
  | none => failB
  | some s => match o.guard with
    | none => coreB E o s k
    | some (j, want) => match (ops[j]?).bind (·.dst) with
      | none => skipB s k
      | some d => guardB (getG d) want (coreB E o s k) (skipB s k)
theorem opB_ok {ops : Array Oper} (hck : CkF E ck) : Rf ((opB E n ops o k).c ck t d S) (contX k.c ck (stepO E ck n ops o ⟨t, d⟩ S)) := by
  unfold opB
  split
  · exact .inl rfl
  · rename_i s hs
    have skip : (skipB s k).c ck t d S = contX k.c ck (putA n ⟨t, d⟩ o.dst (.tup []) S) := by rw [dstS_ok hs]; rfl
    have core := coreB_ok (E := E) (n := n) (o := o) (k := k) (t := t) (d := d) (S := S) hck hs
    split
    · rename_i hg
      have : stepO E ck n ops o ⟨t, d⟩ S = stepT E ck n o ⟨t, d⟩ S := by unfold stepO wantedA; rw [hg]; rfl
      rw [this]; exact core
    · rename_i j want hg
      split
      · rename_i hj
        have : stepO E ck n ops o ⟨t, d⟩ S = putA n ⟨t, d⟩ o.dst (.tup []) S := by unfold stepO wantedA; rw [hg]; simp only [hj]
        rw [this]; exact .inr skip
      · rename_i d0 hj
        show Rf (Option.rec (motive := fun _ => O) .fail (fun a => (guard1 want (coreB E o s k) (skipB s k) a).c ck t d S) ((getG d0).g t)) _
        rw [getG_ok]
        cases hx : t.get d0 with
        | none => exact .inl rfl
        | some a =>
          show Rf ((guard1 want (coreB E o s k) (skipB s k) a).c ck t d S) _
          unfold guard1
          cases hv : a.sv with
          | b b =>
            have ha := sv_b hv
            subst ha
            have hw : wantedA ops o t = some (b == want) := by unfold wantedA; rw [hg]; simp only [hj, hx]
            show Rf ((Bool.rec (motive := fun _ => Bx) (skipB s k) (coreB E o s k) (sameB b want)).c ck t d S) _
            have hb : sameB b want = (b == want) := by cases b <;> cases want <;> rfl
            rw [hb]
            cases hbw : (b == want) with
            | false =>
              have : stepO E ck n ops o ⟨t, d⟩ S = putA n ⟨t, d⟩ o.dst (.tup []) S := by unfold stepO; simp only [hw, hbw]
              rw [this]; exact .inr skip
            | true =>
              have : stepO E ck n ops o ⟨t, d⟩ S = stepT E ck n o ⟨t, d⟩ S := by unfold stepO; simp only [hw, hbw]; rfl
              rw [this]; exact core
          | i => exact .inl rfl
          | s => exact .inl rfl
          | no =>
            show Rf ((Bool.rec (motive := fun _ => Bx) failB (skipB s k) (isTup a)).c ck t d S) _
            cases hp : a.pv with
            | t vs =>
              have : isTup a = true := by unfold isTup; rw [hp]
              rw [this]
              have ha := pv_t hp
              subst ha
              have hw : wantedA ops o t = some false := by unfold wantedA; rw [hg]; simp only [hj, hx]
              have : stepO E ck n ops o ⟨t, d⟩ S = putA n ⟨t, d⟩ o.dst (.tup []) S := by unfold stepO; simp only [hw]
              rw [this]; exact .inr skip
            | p =>
              have : isTup a = false := by unfold isTup; rw [hp]
              rw [this]; exact .inl rfl
            | e =>
              have : isTup a = false := by unfold isTup; rw [hp]
              rw [this]; exact .inl rfl
            | n =>
              have : isTup a = false := by unfold isTup; rw [hp]
              rw [this]; exact .inl rfl
            | l =>
              have : isTup a = false := by unfold isTup; rw [hp]
              rw [this]; exact .inl rfl
            | a =>
              have : isTup a = false := by unfold isTup; rw [hp]
              rw [this]; exact .inl rfl
            | no =>
              have : isTup a = false := by unfold isTup; rw [hp]
              rw [this]; exact .inl rfl
            | w =>
              have : isTup a = false := by unfold isTup; rw [hp]
              rw [this]; exact .inl rfl
def opsB (E : Env) (n : Nat) (ops : Array Oper) (l : List Oper) : Bx → Bx := List.rec (motive := fun _ => Bx → Bx) (fun k => k) (fun o _ ih k => opB E n ops o (ih k)) l
end
theorem opsB_ok {E : Env} {n : Nat} {ops : Array Oper} {ck : CallK} (hck : CkF E ck) (k : Bx) : ∀ (l : List Oper) (t : T AV) (d : List Dfr) (S : St), Rf ((opsB E n ops l k).c ck t d S) (contX k.c ck (runL E ck n ops l ⟨t, d⟩ S))
  | [], t, d, S => .inr rfl
  | o :: r, t, d, S => by
    have h := opB_ok (E := E) (n := n) (o := o) (ops := ops) (k := opsB E n ops r k) (t := t) (d := d) (S := S) hck
    show Rf ((opB E n ops o (opsB E n ops r k)).c ck t d S) _
    rcases h with h | h
    · exact .inl h
    · rw [h]
      unfold runL
      cases stepO E ck n ops o ⟨t, d⟩ S with
      | fail => exact .inl rfl
      | out e f' S' =>
        cases e with
        | normal => exact opsB_ok hck k r f'.tmps f'.dfr S'
        | exit i => exact .inr rfl
        | ret => exact .inr rfl
        | pan a => exact .inr rfl
/-- What was seen is still so. -/
def re1 (k : Bx) (ck : CallK) (t : T AV) (d : List Dfr) (S : St) (b a : Option AV) : O := Option.rec (motive := fun _ => O) .fail (fun b => Option.rec (motive := fun _ => O) .fail (fun a => Bool.rec (motive := fun _ => O) .fail (k.c ck t d S) (beqA b a)) a) b
def reB (E : Env) (ops : Array Oper) (o : Oper) (k : Bx) : Bx := match o.guard, o.dst, isLook o with
  | none, some d0, true => ⟨fun ck t d S => re1 k ck t d S ((getG d0).g t) ((valV E o).v t S)⟩
  | _, _, _ => ⟨fun ck t d S => Bool.rec (motive := fun _ => O) .fail (k.c ck t d S) (againO E ops o t S)⟩
theorem reB_ok {E : Env} {ops : Array Oper} {o : Oper} {k : Bx} {ck : CallK} {t : T AV} {d : List Dfr} {S : St} : Rf ((reB E ops o k).c ck t d S) (if againO E ops o t S then k.c ck t d S else .fail) := by
  have slow : Rf (Bool.rec (motive := fun _ => O) .fail (k.c ck t d S) (againO E ops o t S)) (if againO E ops o t S then k.c ck t d S else .fail) := by
    cases againO E ops o t S <;> exact .inr rfl
  unfold reB
  split
  · rename_i d0 hg hd hl
    show Rf (re1 k ck t d S ((getG d0).g t) ((valV E o).v t S)) _
    rw [getG_ok]
    cases hb : t.get d0 with
    | none => exact .inl rfl
    | some b =>
      cases hv : (valV E o).v t S with
      | none => exact .inl rfl
      | some a =>
        have h1 := valV_ok hl t S a hv
        have h2 : lookV E ops o t S = some a := by unfold lookV wantedA; rw [hg]; simp only [h1]
        have h3 : againO E ops o t S = beqA b a := by unfold againO; rw [h2, hd]; simp only [hb]
        rw [h3]
        show Rf (Bool.rec (motive := fun _ => O) .fail (k.c ck t d S) (beqA b a)) _
        cases beqA b a <;> exact .inr rfl
  · exact slow
def rsB (E : Env) (n : Nat) (ops : Array Oper) (l : List RS) : Bx → Bx := List.rec (motive := fun _ => Bx → Bx) (fun k => k) (fun s _ ih k => RS.rec (motive := fun _ => Bx) (fun o => opB E n ops o (ih k)) (fun o => reB E ops o (ih k)) s) l
theorem rsB_ok {E : Env} {n : Nat} {ops : Array Oper} {ck : CallK} (hck : CkF E ck) (k : Bx) : ∀ (l : List RS) (t : T AV) (d : List Dfr) (S : St), Rf ((rsB E n ops l k).c ck t d S) (contX k.c ck (runRS E ck n ops l ⟨t, d⟩ S))
  | [], t, d, S => .inr rfl
  | .op o :: r, t, d, S => by
    have h := opB_ok (E := E) (n := n) (o := o) (ops := ops) (k := rsB E n ops r k) (t := t) (d := d) (S := S) hck
    show Rf ((opB E n ops o (rsB E n ops r k)).c ck t d S) _
    rcases h with h | h
    · exact .inl h
    · rw [h]
      have e : runRS E ck n ops (.op o :: r) ⟨t, d⟩ S = match stepO E ck n ops o ⟨t, d⟩ S with
        | .out .normal f' S' => runRS E ck n ops r f' S'
        | r => r := rfl
      rw [e]
      cases stepO E ck n ops o ⟨t, d⟩ S with
      | fail => exact .inl rfl
      | out e f' S' =>
        cases e with
        | normal => exact rsB_ok hck k r f'.tmps f'.dfr S'
        | exit i => exact .inr rfl
        | ret => exact .inr rfl
        | pan a => exact .inr rfl
  | .re o :: r, t, d, S => by
    have h := reB_ok (E := E) (o := o) (ops := ops) (k := rsB E n ops r k) (ck := ck) (t := t) (d := d) (S := S)
    show Rf ((reB E ops o (rsB E n ops r k)).c ck t d S) _
    have e : runRS E ck n ops (.re o :: r) ⟨t, d⟩ S = if againO E ops o t S then runRS E ck n ops r ⟨t, d⟩ S else .fail := rfl
    rw [e]
    rcases h with h | h
    · exact .inl h
    · rw [h]
      cases againO E ops o t S with
      | false => exact .inl rfl
      | true => exact rsB_ok hck k r t d S
def drawS (E : Env) (n : Nat) (ops : Array Oper) (k : Bx) : Bx := ⟨fun ck t d S => contX k.c ck (drawnR E ck n ops ⟨t, d⟩ S)⟩
def onlyLooks (l : List RS) : Bool := l.all fun s => match s with
  | .op o => isLook o
  | .re _ => true
def fixB (E : Env) (n : Nat) (ops : Array Oper) (l : List RS) (k : Bx) : Bx := ⟨fun ck t d S => contX k.c ck (fixX ⟨eraseT ops.toList t, d⟩ ((rsB E n ops l normB).c ck t d S))⟩
def drawO (E : Env) (n : Nat) (ops : Array Oper) (k : Bx) : Bx :=
  let ms := bm ops.toList []
  let order := eager ops ms ops.size (List.range ops.size) 0
  if static ops ms order then (match stepsD ops ms order [] with
    | some rs => if onlyLooks rs then rsB E n ops rs k else fixB E n ops rs k
    | none => drawS E n ops k) else drawS E n ops k
def drawF (E : Env) (n : Nat) (ops : Array Oper) (x : FlP) (k : Bx) : Bx := match allSteps ops x with
  | some rs => if x.d < n then ⟨fun ck t d S => contX k.c ck (fixX ⟨eraseT ops.toList t, d⟩ ((rsB E n ops rs normB).c ck (T.set t x.d none) d S))⟩ else failB
  | none => failB
def drawM (E : Env) (n : Nat) (ops : Array Oper) (x : MkX) (k : Bx) : Bx := match mkSteps ops x with
  | some rs => if mkFit E.P n ops x = true then ⟨fun ck t d S => contX k.c ck (fixX ⟨eraseT ops.toList t, d⟩ ((rsB E n ops rs normB).c ck (clearT E.P ops x.mks t) d S))⟩ else failB
  | none => failB
def thenM2 (P : Program) (ops : Array Oper) (M : List Nat) (k : CallK → T AV → List Dfr → St → O) (ck : CallK) (r : O) : O := match r with
  | .out e f S => match e with
    | .normal => Bool.rec .fail (k ck f.tmps f.dfr S) (M.all (goodM P ops f.tmps))
    | _ => .fail
  | .fail => .fail
def drawM2 (E : Env) (n : Nat) (ops : Array Oper) (x : MkX) (k : Bx) : Bx := match mk2Steps ops x with
  | some (p, M, q) => if mkFit2 E.P n ops x = true then ⟨fun ck t d S => thenM2 E.P ops M (fun ck t2 d2 S2 => contX k.c ck (fixX ⟨eraseT ops.toList t, d⟩ ((rsB E n ops q normB).c ck t2 d2 S2))) ck ((rsB E n ops p normB).c ck (clearT2 E.P ops x.mks t) d S)⟩ else failB
  | none => failB
def zqOp {α : Type} (e : α → α → Bool) : Option α → Option α → Bool
  | none, none => true
  | some a, some b => e a b
  | _, _ => false
def zqT {α : Type} (e : α → α → Bool) : T α → T α → Bool
  | .leaf, .leaf => true
  | .node v a b c d, .node v' a' b' c' d' => zqOp e v v' && (zqT e a a' && (zqT e b b' && (zqT e c c' && zqT e d d')))
  | _, _ => false
theorem zqOp_eq {α : Type} {e : α → α → Bool} (he : ∀ a b, e a b = true → a = b) {x y : Option α} (h : zqOp e x y = true) : x = y := by
  cases x <;> cases y <;> first | rfl | (cases h; done) | exact congrArg some (he _ _ h)
theorem zqT_eq {α : Type} {e : α → α → Bool} (he : ∀ a b, e a b = true → a = b) : ∀ {x y : T α}, zqT e x y = true → x = y
  | .leaf, .leaf, _ => rfl
  | .leaf, .node .., h => by cases h
  | .node .., .leaf, h => by cases h
  | .node v a b c d, .node v' a' b' c' d', h => by
    unfold zqT at h
    simp only [Bool.and_eq_true] at h
    obtain ⟨h0, h1, h2, h3, h4⟩ := h
    rw [zqOp_eq he h0, zqT_eq he h1, zqT_eq he h2, zqT_eq he h3, zqT_eq he h4]
def zqM : List (Value × AV) → List (Value × AV) → Bool
  | [], [] => true
  | a :: r, b :: s => eqS a.1 b.1 && (beqA a.2 b.2 && zqM r s)
  | _, _ => false
theorem zqM_eq : ∀ {x y : List (Value × AV)}, zqM x y = true → x = y
  | [], [], _ => rfl
  | [], _ :: _, h => by cases h
  | _ :: _, [], h => by cases h
  | (a, b) :: r, (c, d) :: s, h => by
    unfold zqM at h
    simp only [Bool.and_eq_true] at h
    rw [eqS_eq h.1, beqA_eq _ _ h.2.1, zqM_eq h.2.2]
def zqC : Cell → Cell → Bool
  | .box a, .box b => beqL a b
  | .tip a, .tip b => Nat.beq a b
  | .mp a, .mp b => zqM a b
  | _, _ => false
theorem zqC_eq (a b : Cell) (h : zqC a b = true) : a = b := by
  cases a <;> cases b <;> first | (cases h; done) | exact congrArg _ (beqL_eq _ _ h) | exact congrArg _ (Nat.eq_of_beq_eq_true h) | exact congrArg _ (zqM_eq h)
def zqN : Ex → Bool
  | .normal => true
  | _ => false
def zqO : O → O → Bool
  | .out e f S, .out e' f' S' => zqN e && (zqN e' && (zqT beqA f.tmps f'.tmps && (f.dfr.isEmpty && (f'.dfr.isEmpty && (Nat.beq S.next S'.next && zqT zqC S.mem S'.mem)))))
  | _, _ => false
theorem zqO_eq {a b : O} (h : zqO a b = true) : ∃ f S, a = .out .normal f S ∧ b = a := by
  cases a with
  | fail => cases b <;> cases h
  | out e f S =>
  cases b with
  | fail => cases h
  | out e' f' S' =>
    unfold zqO at h
    simp only [Bool.and_eq_true] at h
    obtain ⟨h1, h2, h3, h4, h5, h6, h7⟩ := h
    obtain ⟨t, d⟩ := f
    obtain ⟨t', d'⟩ := f'
    obtain ⟨n, m⟩ := S
    obtain ⟨n', m'⟩ := S'
    have e1 : t = t' := zqT_eq beqA_eq h3
    have e2 : n = n' := Nat.eq_of_beq_eq_true h6
    have e3 : m = m' := zqT_eq zqC_eq h7
    subst e1; subst e2; subst e3
    cases d with
    | cons _ _ => cases h4
    | nil =>
    cases d' with
    | cons _ _ => cases h5
    | nil =>
    cases e <;> first | (cases h1; done) | (cases e' <;> first | (cases h2; done) | exact ⟨_, _, rfl, rfl⟩)
def drawT (E : Env) (n : Nat) (ops : Array Oper) (k : Bx) : Bx :=
  let ms := bm ops.toList []
  let order := eager ops ms ops.size (List.range ops.size) 0
  match stepsD ops ms order [], stepsD ops ms (swapE order) [] with
  | some r1, some r2 => ⟨fun ck t d S => (fun a => Bool.rec (motive := fun _ => O) .fail (contX k.c ck a) (zqO a ((rsB E n ops r2 normB).c ck t d S))) ((rsB E n ops r1 normB).c ck t d S)⟩
  | _, _ => failB
def drawB (E : Env) (n : Nat) (ops : Array Oper) (k : Bx) : Bx := match flFind E.P ops with
  | some x => drawF E n ops x k
  | none => match mkFind E.P ops with
    | some x => drawM E n ops x k
    | none => match mk2Find E.P ops with
      | some x => drawM2 E n ops x k
      | none => Bool.rec (motive := fun _ => Bx) (drawO E n ops k) (drawT E n ops k) (isTwo ops)
theorem contX_norm (ck : CallK) (r : O) : contX normB.c ck r = r := by
  cases r with
  | fail => rfl
  | out e f S => cases e <;> rfl
theorem runRS_looks {E : Env} {ck : CallK} {n : Nat} {ops : Array Oper} {fb : Fr} : ∀ (l : List RS) (f : Fr) (S : St), onlyLooks l = true → fixX fb (runRS E ck n ops l f S) = runRS E ck n ops l f S
  | [], f, S, h => rfl
  | .op o :: r, f, S, h => by
    unfold onlyLooks at h
    rw [List.all_cons, Bool.and_eq_true] at h
    have e : runRS E ck n ops (.op o :: r) f S = match stepO E ck n ops o f S with
        | .out .normal f' S' => runRS E ck n ops r f' S'
        | r => r := rfl
    rw [e, stepO_eq, stepR_look h.1]
    cases lookV E ops o f.tmps S with
    | none => rfl
    | some a =>
      simp only
      rw [putA_eq]
      cases okD n o.dst with
      | false => rfl
      | true => exact runRS_looks r _ S h.2
  | .re o :: r, f, S, h => by
    unfold onlyLooks at h
    rw [List.all_cons, Bool.and_eq_true] at h
    have e : runRS E ck n ops (.re o :: r) f S = if againO E ops o f.tmps S then runRS E ck n ops r f S else .fail := rfl
    rw [e]
    cases againO E ops o f.tmps S with
    | false => rfl
    | true => exact runRS_looks r f S h.2
theorem drawO_ok {E : Env} {n : Nat} {ops : Array Oper} {ck : CallK} (hck : CkF E ck) (k : Bx) (t : T AV) (d : List Dfr) (S : St) : Rf ((drawO E n ops k).c ck t d S) (contX k.c ck (drawnRun E ck n ops ⟨t, d⟩ S)) := by
  have slow : Rf ((drawS E n ops k).c ck t d S) (contX k.c ck (drawnRun E ck n ops ⟨t, d⟩ S)) := by
    refine .inr ?_
    show contX k.c ck (drawnR E ck n ops ⟨t, d⟩ S) = _
    rw [drawnR_eq]
  unfold drawO
  simp only
  split
  · rename_i hst
    split
    · rename_i rs hrs
      have e : runRS E ck n ops rs ⟨t, d⟩ S = .fail ∨ drawnRun E ck n ops ⟨t, d⟩ S = fixX ⟨eraseT ops.toList t, d⟩ (runRS E ck n ops rs ⟨t, d⟩ S) := by
        unfold drawnRun
        simp only
        rw [if_pos hst]
        exact drun_steps _ rs _ _ [] hrs (fun _ h => absurd h List.not_mem_nil)
      split
      · rename_i hlk
        have h := rsB_ok (E := E) (n := n) (ops := ops) hck k rs t d S
        rcases h with h | h
        · exact .inl h
        · rw [h]
          rcases e with e | e
          · rw [e]; exact .inl rfl
          · rw [e, runRS_looks rs _ _ hlk]; exact .inr rfl
      · have h := rsB_ok (E := E) (n := n) (ops := ops) hck normB rs t d S
        rw [contX_norm] at h
        show Rf (contX k.c ck (fixX ⟨eraseT ops.toList t, d⟩ ((rsB E n ops rs normB).c ck t d S))) _
        rcases h with h | h
        · rw [h]; exact .inl rfl
        · rw [h]
          rcases e with e | e
          · rw [e]; exact .inl rfl
          · rw [e]; exact .inr rfl
    · exact slow
  · exact slow
theorem drawT_ok {E : Env} {n : Nat} {ops : Array Oper} {ck : CallK} (hck : CkF E ck) (hx : flFind E.P ops = none) (hy : mkFind E.P ops = none) (hz : mk2Find E.P ops = none) (htw : isTwo ops = true) (k : Bx) (t : T AV) (d : List Dfr) (S : St) : Rf ((drawT E n ops k).c ck t d S) (contX k.c ck (drawnNew E ck n ops ⟨t, d⟩ S)) := by
  have e2 : drawnNew E ck n ops ⟨t, d⟩ S = drawnTwo E ck n ops ⟨t, d⟩ S := by unfold drawnNew; rw [hx]; simp only [hy, hz, htw, if_true]
  rw [e2]
  unfold drawT
  simp only
  split
  · rename_i r1 r2 h1 h2
    have hA := rsB_ok (E := E) (n := n) (ops := ops) hck normB r1 t d S
    have hB := rsB_ok (E := E) (n := n) (ops := ops) hck normB r2 t d S
    rw [contX_norm] at hA hB
    show Rf (Bool.rec (motive := fun _ => O) .fail (contX k.c ck ((rsB E n ops r1 normB).c ck t d S)) (zqO ((rsB E n ops r1 normB).c ck t d S) ((rsB E n ops r2 normB).c ck t d S))) _
    generalize (rsB E n ops r1 normB).c ck t d S = A at hA ⊢
    generalize (rsB E n ops r2 normB).c ck t d S = B at hB ⊢
    cases he : zqO A B with
    | false => exact .inl rfl
    | true =>
      obtain ⟨f', S', rfl, rfl⟩ := zqO_eq he
      rcases hA with hA | hA
      · cases hA
      rcases hB with hB | hB
      · cases hB
      have k1 := drun_steps (E := E) (ck := ck) (n := n) (fb := ⟨eraseT ops.toList t, d⟩) _ r1 ⟨t, d⟩ S [] h1 (fun _ h => absurd h List.not_mem_nil)
      have k2 := drun_steps (E := E) (ck := ck) (n := n) (fb := ⟨eraseT ops.toList t, d⟩) _ r2 ⟨t, d⟩ S [] h2 (fun _ h => absurd h List.not_mem_nil)
      rw [← hA] at k1
      rw [← hB] at k2
      rcases k1 with k1 | k1
      · cases k1
      rcases k2 with k2 | k2
      · cases k2
      have e3 : drawnTwo E ck n ops ⟨t, d⟩ S = .out .normal f' S' := by
        unfold drawnTwo
        simp only
        rw [k1, k2, if_pos rfl]
        rfl
      rw [e3]
      exact .inr rfl
  · exact .inl rfl
theorem drawB_ok {E : Env} {n : Nat} {ops : Array Oper} {ck : CallK} (hck : CkF E ck) (k : Bx) (t : T AV) (d : List Dfr) (S : St) : Rf ((drawB E n ops k).c ck t d S) (contX k.c ck (drawnNew E ck n ops ⟨t, d⟩ S)) := by
  cases hx : flFind E.P ops with
  | some x =>
    have e1 : drawB E n ops k = drawF E n ops x k := by unfold drawB; rw [hx]
    have e2 : drawnNew E ck n ops ⟨t, d⟩ S = drawnFl E x ck n ops ⟨t, d⟩ S := by unfold drawnNew; rw [hx]
    rw [e1, e2]
    unfold drawF drawnFl
    cases hrs : allSteps ops x with
    | none => exact .inl rfl
    | some rs =>
      simp only
      split
      · have h := rsB_ok (E := E) (n := n) (ops := ops) hck normB rs (T.set t x.d none) d S
        rw [contX_norm] at h
        show Rf (contX k.c ck (fixX ⟨eraseT ops.toList t, d⟩ ((rsB E n ops rs normB).c ck (T.set t x.d none) d S))) _
        rcases h with h | h
        · rw [h]; exact .inl rfl
        · rw [h]; exact .inr rfl
      · exact .inl rfl
  | none =>
    cases hy : mkFind E.P ops with
    | some x =>
      have e1 : drawB E n ops k = drawM E n ops x k := by unfold drawB; rw [hx]; simp only [hy]
      have e2 : drawnNew E ck n ops ⟨t, d⟩ S = drawnMk E x ck n ops ⟨t, d⟩ S := by unfold drawnNew; rw [hx]; simp only [hy]
      rw [e1, e2]
      unfold drawM drawnMk
      cases hrs : mkSteps ops x with
      | none => exact .inl rfl
      | some rs =>
        simp only
        cases hc : mkFit E.P n ops x with
        | true =>
          have h := rsB_ok (E := E) (n := n) (ops := ops) hck normB rs (clearT E.P ops x.mks t) d S
          rw [contX_norm] at h
          rw [if_pos rfl, if_pos rfl]
          show Rf (contX k.c ck (fixX ⟨eraseT ops.toList t, d⟩ ((rsB E n ops rs normB).c ck (clearT E.P ops x.mks t) d S))) _
          rcases h with h | h
          · rw [h]; exact .inl rfl
          · rw [h]; exact .inr rfl
        | false => rw [if_neg (by simp), if_neg (by simp)]; exact .inl rfl
    | none =>
    cases hz : mk2Find E.P ops with
    | some x =>
      have e1 : drawB E n ops k = drawM2 E n ops x k := by unfold drawB; rw [hx]; simp only [hy, hz]
      have e2 : drawnNew E ck n ops ⟨t, d⟩ S = drawnMk2 E x ck n ops ⟨t, d⟩ S := by unfold drawnNew; rw [hx]; simp only [hy, hz]
      rw [e1, e2]
      unfold drawM2 drawnMk2
      cases hrs : mk2Steps ops x with
      | none => exact .inl rfl
      | some rs =>
        obtain ⟨p, M, q⟩ := rs
        simp only
        cases hc : mkFit2 E.P n ops x with
        | false => rw [if_neg (by simp), if_neg (by simp)]; exact .inl rfl
        | true =>
          rw [if_pos rfl, if_pos rfl]
          have h := rsB_ok (E := E) (n := n) (ops := ops) hck normB p (clearT2 E.P ops x.mks t) d S
          rw [contX_norm] at h
          show Rf (thenM2 E.P ops M (fun ck t2 d2 S2 => contX k.c ck (fixX ⟨eraseT ops.toList t, d⟩ ((rsB E n ops q normB).c ck t2 d2 S2))) ck ((rsB E n ops p normB).c ck (clearT2 E.P ops x.mks t) d S)) _
          rcases h with h | h
          · rw [h]; exact .inl rfl
          · rw [h]
            cases runRS E ck n ops p ⟨clearT2 E.P ops x.mks t, d⟩ S with
            | fail => exact .inl rfl
            | out e f' S' =>
              cases e with
              | exit i => exact .inl rfl
              | ret => exact .inl rfl
              | pan a => exact .inl rfl
              | normal =>
                show Rf (Bool.rec .fail (contX k.c ck (fixX ⟨eraseT ops.toList t, d⟩ ((rsB E n ops q normB).c ck f'.tmps f'.dfr S'))) (M.all (goodM E.P ops f'.tmps))) (contX k.c ck (if M.all (goodM E.P ops f'.tmps) = true then _ else .fail))
                cases M.all (goodM E.P ops f'.tmps) with
                | false => exact .inl rfl
                | true =>
                  have h2 := rsB_ok (E := E) (n := n) (ops := ops) hck normB q f'.tmps f'.dfr S'
                  rw [contX_norm] at h2
                  show Rf (contX k.c ck (fixX ⟨eraseT ops.toList t, d⟩ ((rsB E n ops q normB).c ck f'.tmps f'.dfr S'))) _
                  rw [if_pos rfl]
                  rcases h2 with h2 | h2
                  · rw [h2]; exact .inl rfl
                  · rw [h2]; exact .inr rfl
    | none =>
      cases htw : isTwo ops with
      | false =>
        have e1 : drawB E n ops k = drawO E n ops k := by unfold drawB; rw [hx]; simp only [hy, hz, htw]
        rw [e1]
        have e2 : drawnNew E ck n ops ⟨t, d⟩ S = drawnRun E ck n ops ⟨t, d⟩ S := by unfold drawnNew; rw [hx]; simp only [hy, hz, htw, Bool.false_eq_true, if_false]
        rw [e2]
        exact drawO_ok hck k t d S
      | true =>
        have e1 : drawB E n ops k = drawT E n ops k := by unfold drawB; rw [hx]; simp only [hy, hz, htw]
        rw [e1]
        exact drawT_ok hck hx hy hz htw k t d S
def drawnNewR (E : Env) : Drawn := fun ck n ops f S => match flFind E.P ops with
  | some x => drawnFl E x ck n ops f S
  | none => match mkFind E.P ops with
    | some x => drawnMk E x ck n ops f S
    | none => match mk2Find E.P ops with
      | some x => drawnMk2 E x ck n ops f S
      | none => if isTwo ops = true then drawnTwo E ck n ops f S else drawnR E ck n ops f S
theorem drawnNewR_eq (E : Env) : drawnNewR E = drawnNew E := by
  unfold drawnNewR
  rw [drawnR_eq]
  rfl
end Go.Ax
noncomputable section
namespace Go.Ax
open Go.RowKit
set_option linter.unusedVariables false
set_option linter.unusedSimpArgs false
theorem stepC_sound2 {E : Env} {D : Drawn} {callK : CallK} {rec : Nat → Code → Fr → St → O} (hE : E.Ok) (hD : DrawnOk E D) (hC : ∀ base w0, CallOk E base w0 callK) (hR : CodeOk E rec) : CodeOk E (stepC E D rec callK) := by
  have loop : ∀ (base : Nat) (w0 : World) (Q : Exit → Act → World → Prop) (n : Nat) (c : Code) (γ : Gh) (S : St) (w : World) (f : Fr) (act : Act), SR base w0 γ S w → AR γ w n f act → GR γ w E.G →
      Holds base w0 n γ S w Q (stepC E D rec callK n (.loop c) f S) → LWp E.P c Q act w := by
    intro base w0 Q n c γ S w f act hS ha hg hH
    refine LWp.round (hR.code base w0 _ n c γ S w f act hS ha hg ?_)
    unfold stepC at hH
    simp only at hH
    split at hH
    · rename_i f' S' hr
      rw [hr]
      intro γ' act' w' k1 k2 k3
      exact hR.loop base w0 Q n c γ' S' w' f' act' k1 k3 (hg.mono k2.ev) (hH.later k2)
    · rename_i r hr
      cases hst : rec n c f S with
      | fail => rw [hst] at hH; exact hH.elim
      | out e f' S' =>
        rw [hst] at hH
        intro γ' act' w' k1 k2 k3
        have := hH γ' act' w' k1 k2 k3
        cases e with
        | normal => exact absurd hst (hr f' S')
        | exit id => exact this
        | ret => exact this
        | pan a => exact this
  refine ⟨fun base w0 Q n c γ S w f act hS ha hg hH => ?_, loop⟩
  cases c with
  | skip => exact wp_skip (hH γ act w hS (.refl _ _ _) ha)
  | label l => exact wp_label (hH γ act w hS (.refl _ _ _) ha)
  | region id ops draw =>
    cases draw with
    | false => exact wp_region_list (runL_sound hE (hC base w0) _ γ S w f act hS ha hg hH)
    | true => exact hD base w0 Q _ (hC base w0) n id ops γ S w f act hS ha hg hH
  | seq x y =>
    refine wp_seq (hR.code base w0 _ n x γ S w f act hS ha hg ?_)
    unfold stepC at hH
    simp only at hH
    split at hH
    · rename_i f' S' hr
      rw [hr]
      intro γ' act' w' k1 k2 k3
      exact hR.code base w0 Q n y γ' S' w' f' act' k1 k3 (hg.mono k2.ev) (hH.later k2)
    · rename_i r hr
      cases hst : rec n x f S with
      | fail => rw [hst] at hH; exact hH.elim
      | out e f' S' =>
        rw [hst] at hH
        intro γ' act' w' k1 k2 k3
        have := hH γ' act' w' k1 k2 k3
        cases e with
        | normal => exact absurd hst (hr f' S')
        | exit id => exact this
        | ret => exact this
        | pan a => exact this
  | cond c x y =>
    unfold stepC at hH
    simp only at hH
    split at hH
    · rename_i hc
      have hv := evalO_sound ha.tmps hg hc
      generalize hq : act.eval c = q at hv
      cases hv
      exact wp_cond_true hq (hR.code base w0 Q n x γ S w f act hS ha hg hH)
    · rename_i hc
      have hv := evalO_sound ha.tmps hg hc
      generalize hq : act.eval c = q at hv
      cases hv
      exact wp_cond_false hq (hR.code base w0 Q n y γ S w f act hS ha hg hH)
    · exact hH.elim
  | block id c =>
    refine wp_block (hR.code base w0 _ n c γ S w f act hS ha hg ?_)
    unfold stepC at hH
    simp only at hH
    split at hH
    · rename_i id' f' S' hr
      rw [hr]
      intro γ' act' w' k1 k2 k3
      show if id' = id then Q .normal act' w' else Q (.exit id') act' w'
      split
      · rename_i he
        rw [if_pos he] at hH
        exact hH γ' act' w' k1 k2 k3
      · rename_i he
        rw [if_neg he] at hH
        exact hH γ' act' w' k1 k2 k3
    · rename_i r hr
      cases hst : rec n c f S with
      | fail => rw [hst] at hH; exact hH.elim
      | out e f' S' =>
        rw [hst] at hH
        intro γ' act' w' k1 k2 k3
        have := hH γ' act' w' k1 k2 k3
        cases e with
        | normal => exact this
        | exit id' => exact absurd hst (hr id' f' S')
        | ret => exact this
        | pan a => exact this
  | loop c => exact (loop base w0 Q n c γ S w f act hS ha hg hH).loop
  | exit id => exact wp_exit (hH γ act w hS (.refl _ _ _) ha)
  | ret => exact wp_ret (hH γ act w hS (.refl _ _ _) ha)
  | rangeFunc => exact hH.elim
  | scope => exact hH.elim
  | goto => exact hH.elim
  | refuse => exact hH.elim
def runC (E : Env) (D : Drawn) (ck : CallK) : Nat → Nat → Code → Fr → St → O :=
  Nat.rec (fun _ _ _ _ => .fail) (fun _ ih => stepC E D ih ck)
theorem runC_sound {E : Env} {D : Drawn} {ck : CallK} (hE : E.Ok) (hD : DrawnOk E D) (hC : ∀ base w0, CallOk E base w0 ck) : ∀ m, CodeOk E (runC E D ck m)
  | 0 => ⟨fun _ _ _ _ _ _ _ _ _ _ _ _ _ h => h.elim, fun _ _ _ _ _ _ _ _ _ _ _ _ _ h => h.elim⟩
  | m + 1 => stepC_sound2 hE hD hC (runC_sound hE hD hC m)
theorem runC_succ {E : Env} {D : Drawn} {ck : CallK} : ∀ (m n : Nat) (c : Code) (f : Fr) (S : St), runC E D ck m n c f S ≠ .fail → runC E D ck (m + 1) n c f S = runC E D ck m n c f S
  | 0, n, c, f, S, h => absurd rfl h
  | m + 1, n, c, f, S, h => by
    have ih := runC_succ (E := E) (D := D) (ck := ck) m
    have e1 : ∀ m n c f S, runC E D ck (m + 1) n c f S = stepC E D (runC E D ck m) ck n c f S := fun _ _ _ _ _ => rfl
    rw [e1] at h ⊢
    rw [e1 m]
    have sub : ∀ (c : Code) (f : Fr) (S : St) (r : O), runC E D ck m n c f S = r → r ≠ .fail → runC E D ck (m + 1) n c f S = r := fun c f S r hr hne => (ih n c f S (by rw [hr]; exact hne)).trans hr
    cases c with
    | seq a b =>
      simp only [stepC] at h ⊢
      cases hr : runC E D ck m n a f S with
      | fail => rw [hr] at h; exact absurd rfl h
      | out e f' S' =>
        rw [sub _ _ _ _ hr (fun e => by cases e)]
        rw [hr] at h
        cases e with
        | normal => exact ih n b f' S' h
        | _ => rfl
    | loop a =>
      simp only [stepC] at h ⊢
      cases hr : runC E D ck m n a f S with
      | fail => rw [hr] at h; exact absurd rfl h
      | out e f' S' =>
        rw [sub _ _ _ _ hr (fun e => by cases e)]
        rw [hr] at h
        cases e with
        | normal => exact ih n (.loop a) f' S' h
        | _ => rfl
    | block id a =>
      simp only [stepC] at h ⊢
      cases hr : runC E D ck m n a f S with
      | fail => rw [hr] at h; exact absurd rfl h
      | out e f' S' => rw [sub _ _ _ _ hr (fun e => by cases e)]
    | cond x a b =>
      simp only [stepC] at h ⊢
      split at h
      · exact ih n a f S h
      · exact ih n b f S h
      · exact absurd rfl h
    | region id ops dr => cases dr <;> rfl
    | _ => rfl
theorem runC_le {E : Env} {D : Drawn} {ck : CallK} {m m' n : Nat} {c : Code} {f : Fr} {S : St} (hm : m ≤ m') (h : runC E D ck m n c f S ≠ .fail) : runC E D ck m' n c f S = runC E D ck m n c f S := by
  induction hm with
  | refl => rfl
  | step hm ih => rw [runC_succ _ _ _ _ _ (by rw [ih]; exact h), ih]
def orNorm (k : Option Bx) : Bx := Option.rec (motive := fun _ => Bx) normB (fun k => k) k
def thenB (x k : Bx) : Bx := ⟨fun ck t d S => contX k.c ck (x.c ck t d S)⟩
def tailB (x : Bx) (k : Option Bx) : Bx := Option.rec (motive := fun _ => Bx) x (fun k => thenB x k) k
def exitB (id : Nat) : Bx := ⟨fun _ t d S => .out (.exit id) ⟨t, d⟩ S⟩
def retB : Bx := ⟨fun _ t d S => .out .ret ⟨t, d⟩ S⟩
def sel1 (a b : Bx) (v : AV) : Bx := SV.rec (motive := fun _ => Bx) (fun c => Bool.rec (motive := fun _ => Bx) b a c) (fun _ _ => failB) (fun _ => failB) failB v.sv
def condB (g : GB) (a b : Bx) : Bx := ⟨fun ck t d S => Option.rec (motive := fun _ => O) .fail (fun v => (sel1 a b v).c ck t d S) (g.g t)⟩
def blkX (id : Nat) (r : O) : O := O.rec (motive := fun _ => O) (fun e f S => Ex.rec (motive := fun _ => O) (.out .normal f S) (fun i => Bool.rec (motive := fun _ => O) (.out (.exit i) f S) (.out .normal f S) (Nat.beq i id)) (.out .ret f S) (fun a => .out (.pan a) f S) e) .fail r
def blockB (id : Nat) (x : Bx) : Bx := ⟨fun ck t d S => blkX id (x.c ck t d S)⟩
def loopX (ih : T AV → List Dfr → St → O) (r : O) : O := O.rec (motive := fun _ => O) (fun e f S => Ex.rec (motive := fun _ => O) (ih f.tmps f.dfr S) (fun i => .out (.exit i) f S) (.out .ret f S) (fun a => .out (.pan a) f S) e) .fail r
def loopN (x : Bx) (ck : CallK) (j : Nat) : T AV → List Dfr → St → O := Nat.rec (motive := fun _ => T AV → List Dfr → St → O) (fun _ _ _ => .fail) (fun _ ih t d S => loopX ih (x.c ck t d S)) j
def fuelN : Nat := 5000
def loopB (x : Bx) : Bx := ⟨fun ck t d S => loopN x ck fuelN t d S⟩
theorem loopB_c (x : Bx) (ck : CallK) (t : T AV) (d : List Dfr) (S : St) : (loopB x).c ck t d S = loopN x ck fuelN t d S := rfl
def comp (E : Env) (n : Nat) (c : Code) : Option Bx → Bx := Code.rec (motive := fun _ => Option Bx → Bx)
  (fun k => orNorm k)
  (fun _ ops dr k => Bool.rec (motive := fun _ => Bx) (opsB E n ops ops.toList (orNorm k)) (drawB E n ops (orNorm k)) dr)
  (fun _ _ ia ib k => ia (some (ib k)))
  (fun x _ _ ia ib k => tailB (condB (opG E.G x) (ia none) (ib none)) k)
  (fun id _ ia k => tailB (blockB id (ia none)) k)
  (fun _ ia k => tailB (loopB (ia none)) k)
  (fun _ _ _ _ _ _ _ => failB)
  (fun id _ => exitB id)
  (fun _ _ _ => failB)
  (fun _ k => orNorm k)
  (fun _ _ => failB)
  (fun _ => retB)
  (fun _ _ => failB) c
def contO (k : Option Bx) (ck : CallK) (r : O) : O := match k with
  | none => r
  | some k => contX k.c ck r
theorem contO_fail (k : Option Bx) (ck : CallK) : contO k ck .fail = .fail := by cases k <;> rfl
theorem contX_or (k : Option Bx) (ck : CallK) (r : O) : contX (orNorm k).c ck r = contO k ck r := by
  cases k with
  | none => exact contX_norm ck r
  | some k => rfl
theorem tailB_c (x : Bx) (k : Option Bx) (ck : CallK) (t : T AV) (d : List Dfr) (S : St) : (tailB x k).c ck t d S = contO k ck (x.c ck t d S) := by cases k <;> rfl
def COk (E : Env) (n : Nat) (ck : CallK) (c : Code) : Prop := ∀ (k : Option Bx) (t : T AV) (d : List Dfr) (S : St), (comp E n c k).c ck t d S = .fail ∨ ∃ m, contO k ck (runC E (drawnNew E) ck m n c ⟨t, d⟩ S) = (comp E n c k).c ck t d S
theorem tail_ok {E : Env} {n : Nat} {ck : CallK} {c : Code} {x : Bx} (h : ∀ (t : T AV) (d : List Dfr) (S : St), x.c ck t d S = .fail ∨ ∃ m, runC E (drawnNew E) ck m n c ⟨t, d⟩ S = x.c ck t d S) (k : Option Bx) (t : T AV) (d : List Dfr) (S : St) :
    (tailB x k).c ck t d S = .fail ∨ ∃ m, contO k ck (runC E (drawnNew E) ck m n c ⟨t, d⟩ S) = (tailB x k).c ck t d S := by
  rw [tailB_c]
  rcases h t d S with h | ⟨m, h⟩
  · rw [h, contO_fail]; exact .inl rfl
  · exact .inr ⟨m, by rw [h]⟩
theorem comp_ok {E : Env} {n : Nat} {ck : CallK} (hck : CkF E ck) : ∀ c : Code, COk E n ck c
  | .skip => fun k t d S => .inr ⟨1, (contX_or k ck _).symm⟩
  | .label l => fun k t d S => .inr ⟨1, (contX_or k ck _).symm⟩
  | .region id ops false => fun k t d S => by
    have h := opsB_ok (E := E) (n := n) (ops := ops) hck (orNorm k) ops.toList t d S
    rw [contX_or] at h
    show (opsB E n ops ops.toList (orNorm k)).c ck t d S = .fail ∨ _
    rcases h with h | h
    · exact .inl h
    · exact .inr ⟨1, h.symm⟩
  | .region id ops true => fun k t d S => by
    have h := drawB_ok (E := E) (n := n) (ops := ops) hck (orNorm k) t d S
    rw [contX_or] at h
    show (drawB E n ops (orNorm k)).c ck t d S = .fail ∨ _
    rcases h with h | h
    · exact .inl h
    · exact .inr ⟨1, h.symm⟩
  | .seq a b => fun k t d S => by
    have ha := comp_ok (n := n) hck a (some (comp E n b k)) t d S
    show (comp E n a (some (comp E n b k))).c ck t d S = .fail ∨ ∃ m, _ = (comp E n a (some (comp E n b k))).c ck t d S
    rcases ha with ha | ⟨m1, ha⟩
    · exact .inl ha
    · rw [← ha]
      cases hr : runC E (drawnNew E) ck m1 n a ⟨t, d⟩ S with
      | fail => exact .inl rfl
      | out e f' S' =>
        have hne : runC E (drawnNew E) ck m1 n a ⟨t, d⟩ S ≠ .fail := by rw [hr]; exact fun e => by cases e
        cases e with
        | normal =>
          have hb := comp_ok (n := n) hck b k f'.tmps f'.dfr S'
          show (comp E n b k).c ck f'.tmps f'.dfr S' = .fail ∨ ∃ m, _ = (comp E n b k).c ck f'.tmps f'.dfr S'
          rcases hb with hb | ⟨m2, hb⟩
          · exact .inl hb
          · rw [← hb]
            by_cases hf : runC E (drawnNew E) ck m2 n b ⟨f'.tmps, f'.dfr⟩ S' = .fail
            · rw [hf, contO_fail]; exact .inl rfl
            · refine .inr ⟨max m1 m2 + 1, ?_⟩
              have e1 : runC E (drawnNew E) ck (max m1 m2 + 1) n (.seq a b) ⟨t, d⟩ S = runC E (drawnNew E) ck m2 n b f' S' := by
                show stepC E (drawnNew E) (runC E (drawnNew E) ck (max m1 m2)) ck n (.seq a b) ⟨t, d⟩ S = _
                simp only [stepC]
                rw [runC_le (Nat.le_max_left m1 m2) hne, hr]
                exact runC_le (Nat.le_max_right m1 m2) hf
              rw [e1]
        | exit i => refine .inr ⟨m1 + 1, ?_⟩; show contO k ck (stepC E (drawnNew E) (runC E (drawnNew E) ck m1) ck n (.seq a b) ⟨t, d⟩ S) = _; simp only [stepC, hr]; cases k <;> rfl
        | ret => refine .inr ⟨m1 + 1, ?_⟩; show contO k ck (stepC E (drawnNew E) (runC E (drawnNew E) ck m1) ck n (.seq a b) ⟨t, d⟩ S) = _; simp only [stepC, hr]; cases k <;> rfl
        | pan a => refine .inr ⟨m1 + 1, ?_⟩; show contO k ck (stepC E (drawnNew E) (runC E (drawnNew E) ck m1) ck n (.seq _ b) ⟨t, d⟩ S) = _; simp only [stepC, hr]; cases k <;> rfl
  | .cond x a b => tail_ok fun t d S => by
    have ha := comp_ok (n := n) hck a none t d S
    have hb := comp_ok (n := n) hck b none t d S
    show Option.rec (motive := fun _ => O) .fail (fun v => (sel1 (comp E n a none) (comp E n b none) v).c ck t d S) ((opG E.G x).g t) = .fail ∨ ∃ m, _ = Option.rec (motive := fun _ => O) .fail (fun v => (sel1 (comp E n a none) (comp E n b none) v).c ck t d S) ((opG E.G x).g t)
    rw [opG_ok]
    cases hx : evalO E.G t x with
    | none => exact .inl rfl
    | some v =>
      show (sel1 (comp E n a none) (comp E n b none) v).c ck t d S = .fail ∨ ∃ m, _ = (sel1 (comp E n a none) (comp E n b none) v).c ck t d S
      unfold sel1
      cases hv : v.sv with
      | b c =>
        have hvv := sv_b hv
        subst hvv
        cases c with
        | true =>
          show (comp E n a none).c ck t d S = .fail ∨ ∃ m, _ = (comp E n a none).c ck t d S
          rcases ha with ha | ⟨m, ha⟩
          · exact .inl ha
          · refine .inr ⟨m + 1, ?_⟩
            rw [← ha]
            show stepC E (drawnNew E) (runC E (drawnNew E) ck m) ck n (.cond x a b) ⟨t, d⟩ S = _
            simp only [stepC, hx]; rfl
        | false =>
          show (comp E n b none).c ck t d S = .fail ∨ ∃ m, _ = (comp E n b none).c ck t d S
          rcases hb with hb | ⟨m, hb⟩
          · exact .inl hb
          · refine .inr ⟨m + 1, ?_⟩
            rw [← hb]
            show stepC E (drawnNew E) (runC E (drawnNew E) ck m) ck n (.cond x a b) ⟨t, d⟩ S = _
            simp only [stepC, hx]; rfl
      | i => exact .inl rfl
      | s => exact .inl rfl
      | no => exact .inl rfl
  | .block id a => tail_ok fun t d S => by
    have ha := comp_ok (n := n) hck a none t d S
    show blkX id ((comp E n a none).c ck t d S) = .fail ∨ ∃ m, _ = blkX id ((comp E n a none).c ck t d S)
    rcases ha with ha | ⟨m, ha⟩
    · rw [ha]; exact .inl rfl
    · rw [← ha]
      refine .inr ⟨m + 1, ?_⟩
      show stepC E (drawnNew E) (runC E (drawnNew E) ck m) ck n (.block id a) ⟨t, d⟩ S = blkX id (runC E (drawnNew E) ck m n a ⟨t, d⟩ S)
      simp only [stepC]
      cases runC E (drawnNew E) ck m n a ⟨t, d⟩ S with
      | fail => rfl
      | out e f' S' =>
        cases e with
        | exit i =>
          show (if i = id then O.out .normal f' S' else .out (.exit i) f' S') = Bool.rec (motive := fun _ => O) (.out (.exit i) f' S') (.out .normal f' S') (Nat.beq i id)
          rw [beq_dec]
          by_cases h : i = id
          · rw [if_pos h, decide_eq_true h]
          · rw [if_neg h, decide_eq_false h]
        | _ => rfl
  | .loop a => tail_ok fun t d S => by
    have key : ∀ (j : Nat) (t : T AV) (d : List Dfr) (S : St), loopN (comp E n a none) ck j t d S = .fail ∨ ∃ m, runC E (drawnNew E) ck m n (.loop a) ⟨t, d⟩ S = loopN (comp E n a none) ck j t d S := by
      intro j
      induction j with
      | zero => exact fun t d S => .inl rfl
      | succ j ih =>
        intro t d S
        have ha := comp_ok (n := n) hck a none t d S
        show loopX (loopN (comp E n a none) ck j) ((comp E n a none).c ck t d S) = .fail ∨ ∃ m, _ = loopX (loopN (comp E n a none) ck j) ((comp E n a none).c ck t d S)
        rcases ha with ha | ⟨m1, ha⟩
        · rw [ha]; exact .inl rfl
        · rw [← ha]
          have ha2 : contO none ck (runC E (drawnNew E) ck m1 n a ⟨t, d⟩ S) = runC E (drawnNew E) ck m1 n a ⟨t, d⟩ S := rfl
          rw [ha2]
          cases hr : runC E (drawnNew E) ck m1 n a ⟨t, d⟩ S with
          | fail => exact .inl rfl
          | out e f' S' =>
            have hne : runC E (drawnNew E) ck m1 n a ⟨t, d⟩ S ≠ .fail := by rw [hr]; exact fun e => by cases e
            cases e with
            | normal =>
              show loopN (comp E n a none) ck j f'.tmps f'.dfr S' = .fail ∨ ∃ m, _ = loopN (comp E n a none) ck j f'.tmps f'.dfr S'
              rcases ih f'.tmps f'.dfr S' with h | ⟨m2, h⟩
              · exact .inl h
              · rw [← h]
                by_cases hf : runC E (drawnNew E) ck m2 n (.loop a) ⟨f'.tmps, f'.dfr⟩ S' = .fail
                · rw [hf]; exact .inl rfl
                · refine .inr ⟨max m1 m2 + 1, ?_⟩
                  show stepC E (drawnNew E) (runC E (drawnNew E) ck (max m1 m2)) ck n (.loop a) ⟨t, d⟩ S = _
                  simp only [stepC]
                  rw [runC_le (Nat.le_max_left m1 m2) hne, hr]
                  exact runC_le (Nat.le_max_right m1 m2) hf
            | exit i => refine .inr ⟨m1 + 1, ?_⟩; show stepC E (drawnNew E) (runC E (drawnNew E) ck m1) ck n (.loop a) ⟨t, d⟩ S = _; simp only [stepC, hr]; rfl
            | ret => refine .inr ⟨m1 + 1, ?_⟩; show stepC E (drawnNew E) (runC E (drawnNew E) ck m1) ck n (.loop a) ⟨t, d⟩ S = _; simp only [stepC, hr]; rfl
            | pan b => refine .inr ⟨m1 + 1, ?_⟩; show stepC E (drawnNew E) (runC E (drawnNew E) ck m1) ck n (.loop a) ⟨t, d⟩ S = _; simp only [stepC, hr]; rfl
    show (loopB (comp E n a none)).c ck t d S = .fail ∨ ∃ m, _ = (loopB (comp E n a none)).c ck t d S
    rw [loopB_c]
    exact key _ t d S
  | .exit id => fun k t d S => .inr ⟨1, by cases k <;> rfl⟩
  | .ret => fun k t d S => .inr ⟨1, by cases k <;> rfl⟩
  | .rangeFunc .. => fun k t d S => .inl rfl
  | .scope _ => fun k t d S => .inl rfl
  | .goto _ => fun k t d S => .inl rfl
  | .refuse _ => fun k t d S => .inl rfl
/-- Functions. -/
theorem loadV_load {E : Env} {t : TypeId} {g : GB} {f : T AV} {S : St} {a : AV} (h : (loadV E.P t g).v f S = some a) : ∃ b, g.g f = some b ∧ oLoad E.P S t b = some a := by
  unfold loadV at h
  split at h
  · rename_i ht
    obtain ⟨b, h1, h2⟩ := bnd_some h
    exact ⟨b, h1, ld1_ok ht h2⟩
  · rename_i ht
    split at h
    · rename_i n hs
      obtain ⟨b, h1, h2⟩ := bnd_some h
      exact ⟨b, h1, ldN_ok ht hs h2⟩
    · cases h
  · cases h
def resV (P : Program) (r : ResultVar) : VB := match r with
  | .tmp t => moveV (getG t)
  | .cell x t => loadV P t (getG x)
def resX (l : List VB) (f : T AV) (S : St) : Option (List AV) := List.rec (motive := fun _ => Option (List AV)) (some []) (fun v _ ih => Option.rec (motive := fun _ => Option (List AV)) none (fun a => consO a ih) (v.v f S)) l
theorem resX_ok {E : Env} {f : T AV} {S : St} : ∀ {rs : List ResultVar} {l : List AV}, resX (rs.map (resV E.P)) f S = some l → resultsA E f S rs = some l
  | [], l, h => h
  | r :: rs, l, h => by
    have h : Option.rec (motive := fun _ => Option (List AV)) none (fun a => consO a (resX (rs.map (resV E.P)) f S)) ((resV E.P r).v f S) = some l := h
    cases hv : (resV E.P r).v f S with
    | none => rw [hv] at h; cases h
    | some a =>
      rw [hv] at h
      have h : consO a (resX (rs.map (resV E.P)) f S) = some l := h
      cases hq : resX (rs.map (resV E.P)) f S with
      | none => rw [hq] at h; cases h
      | some q =>
        rw [hq] at h
        have h : some (a :: q) = some l := h
        injection h with h; subst h
        have ih := resX_ok (E := E) hq
        cases r with
        | tmp t =>
          have hv : (getG t).g f = some a := hv
          rw [getG_ok] at hv
          simp only [resultsA, hv, ih]
        | cell x t =>
          obtain ⟨b, h1, h2⟩ := loadV_load (E := E) hv
          rw [getG_ok] at h1
          simp only [resultsA, h1, h2, ih]
def giveX (l : List VB) (f : T AV) (S : St) : R := Option.rec (motive := fun _ => R) .fail (fun l => .ret (tupA l) S) (resX l f S)
def endX (l : List VB) (r : O) : R := O.rec (motive := fun _ => R) (fun e f S => List.rec (motive := fun _ => R) (Ex.rec (motive := fun _ => R) (giveX l f.tmps S) (fun _ => .fail) (giveX l f.tmps S) (fun a => .pan a S) e) (fun _ _ _ => .fail) f.dfr) .fail r
def initR (l : List AV) : Nat → T AV := List.rec (motive := fun _ => Nat → T AV) (fun _ => .leaf) (fun a _ ih k => (setS k).s (ih (Nat.succ k)) a) l
theorem initR_eq : ∀ (l : List AV) (k : Nat), initR l k = initT l k
  | [], k => rfl
  | a :: r, k => by
    show (setS k).s (initR r (k + 1)) a = _
    rw [setS_ok, initR_eq r (k + 1)]; rfl
def runCR (E : Env) (ck : CallK) (m : Nat) : Nat → Code → Fr → St → O :=
  Nat.rec (motive := fun _ => Nat → Code → Fr → St → O) (fun _ _ _ _ => .fail) (fun _ ih => stepCR E (drawnNewR E) ih ck) m
theorem runCR_eq (E : Env) (ck : CallK) : ∀ m, runCR E ck m = runC E (drawnNew E) ck m
  | 0 => rfl
  | m + 1 => by
    have ih := runCR_eq E ck m
    show (fun n c f S => stepCR E (drawnNewR E) (runCR E ck m) ck n c f S) = _
    rw [ih, drawnNewR_eq]
    funext n c f S
    exact stepCR_eq ..
def defers (l : List Oper) : Bool := l.any fun o => match o.op with | .defer _ => true | _ => false
def hasDefer : Code → Bool
  | .region _ ops _ => defers ops.toList
  | .seq a b => hasDefer a || hasDefer b
  | .cond _ a b => hasDefer a || hasDefer b
  | .block _ a => hasDefer a
  | .loop a => hasDefer a
  | _ => false
def failF : FB := ⟨fun _ _ _ => .fail⟩
def slowF (E : Env) (k : FuncId) : FB := ⟨fun ck args S => stepF E (runCR E ck fuelN) k args S⟩
def fastF (x : Bx) (n : Nat) (l : List VB) : FB := ⟨fun ck args S => Bool.rec (motive := fun _ => R) .fail (endX l (x.c ck (initR args 0) [] S)) (Nat.ble (lenR args) n)⟩
def fnB (E : Env) (k : FuncId) : FB := match E.F k with
  | none => failF
  | some fn => match E.I k with
    | some g => ⟨fun _ args S => g args S⟩
    | none => match fn.body with
      | none => failF
      | some c => if hasDefer c then slowF E k else fastF (comp E fn.ntmps c none) fn.ntmps (fn.results.toList.map (resV E.P))
def callX (E : Env) (m : Nat) : CallK := Nat.rec (motive := fun _ => CallK) (fun _ _ _ => .fail) (fun _ ih k args S => (fnB E k).f ih args S) m
theorem endX_ok {E : Env} {fn : Func} {rec : Nat → Code → Fr → St → O} (r : O) : endX (fn.results.toList.map (resV E.P)) r = .fail ∨ endX (fn.results.toList.map (resV E.P)) r = endA E rec fn r := by
  have give : ∀ (f : T AV) (S : St), giveX (fn.results.toList.map (resV E.P)) f S = .fail ∨ giveX (fn.results.toList.map (resV E.P)) f S = giveA E fn f S := fun f S => by
    unfold giveX
    cases hq : resX (fn.results.toList.map (resV E.P)) f S with
    | none => exact .inl rfl
    | some l =>
      refine .inr ?_
      unfold giveA
      rw [resX_ok hq]
  cases r with
  | fail => exact .inl rfl
  | out e f S =>
    obtain ⟨t, d⟩ := f
    cases d with
    | cons x y => exact .inl rfl
    | nil => cases e with
      | normal => exact give t S
      | exit i => exact .inl rfl
      | ret => exact give t S
      | pan a => exact .inr rfl
theorem fnB_ok {E : Env} {ck : CallK} (hck : CkF E ck) (k : FuncId) (args : List AV) (S : St) : (fnB E k).f ck args S = .fail ∨ ((E.F k).isSome = true ∧ ∃ m, (fnB E k).f ck args S = stepF E (runC E (drawnNew E) ck m) k args S) := by
  unfold fnB
  cases hF : E.F k with
  | none => exact .inl rfl
  | some fn =>
    simp only
    cases hI : E.I k with
    | some g => exact .inr ⟨rfl, 0, by simp only [stepF, hI]⟩
    | none =>
      simp only
      cases hb : fn.body with
      | none => exact .inl rfl
      | some c =>
        simp only
        split
        · exact .inr ⟨rfl, fuelN, by show stepF E (runCR E ck fuelN) k args S = _; rw [runCR_eq]⟩
        · show (Bool.rec (motive := fun _ => R) .fail (endX _ ((comp E fn.ntmps c none).c ck (initR args 0) [] S)) (Nat.ble (lenR args) fn.ntmps) : R) = .fail ∨ _ ∧ ∃ m, (Bool.rec (motive := fun _ => R) .fail (endX _ ((comp E fn.ntmps c none).c ck (initR args 0) [] S)) (Nat.ble (lenR args) fn.ntmps) : R) = _
          cases hl : Nat.ble (lenR args) fn.ntmps with
          | false => exact .inl rfl
          | true =>
            have hle : args.length ≤ fn.ntmps := by rw [← lenR_eq]; exact Nat.le_of_ble_eq_true hl
            show endX _ ((comp E fn.ntmps c none).c ck (initR args 0) [] S) = .fail ∨ _ ∧ ∃ m, endX _ ((comp E fn.ntmps c none).c ck (initR args 0) [] S) = _
            rcases comp_ok hck c none (initR args 0) [] S with h | ⟨m, h⟩
            · rw [h]; exact .inl rfl
            · rw [← h]
              rcases endX_ok (E := E) (fn := fn) (rec := runC E (drawnNew E) ck m) (contO none ck (runC E (drawnNew E) ck m fn.ntmps c ⟨initR args 0, []⟩ S)) with h2 | h2
              · exact .inl h2
              · refine .inr ⟨rfl, m, h2.trans ?_⟩
                simp only [stepF, hI, hF, hb, if_pos hle, initR_eq]
                rfl
theorem callX_F {E : Env} : ∀ m, CkF E (callX E m)
  | 0 => fun k args S h => absurd rfl h
  | m + 1 => fun k args S h => by
    rcases fnB_ok (callX_F m) k args S with h2 | ⟨h2, _⟩
    · exact absurd h2 h
    · exact h2
theorem callX_ok {E : Env} (hE : E.Ok) (hI : IntrOk E) (hmix : E.P.follows .mixedOrders = true) : ∀ m base w0, CallOk E base w0 (callX E m)
  | 0, base, w0 => fun k args S h => absurd rfl h
  | m + 1, base, w0 => by
    intro k args S hne γ w vs hS hg hv hF
    rcases fnB_ok (callX_F m) k args S with h2 | ⟨_, j, h2⟩
    · exact absurd h2 hne
    · have e : callX E (m + 1) k args S = stepF E (runC E (drawnNew E) (callX E m) j) k args S := h2
      rw [e] at hne ⊢
      exact stepF_sound hE hI (runC_sound hE (drawnNew_ok hE hmix) (callX_ok hE hI hmix m) j) base w0 k args S hne γ w vs hS hg hv hF
end Go.Ax
noncomputable section
namespace Go.Ax
open Go.RowKit
set_option linter.unusedVariables false
set_option linter.unusedSimpArgs false
section
variable {E : Env}
theorem callsX_true (hE : E.Ok) (hI : IntrOk E) (hmix : E.P.follows .mixedOrders = true) (hG : E.G = fun _ => none) {m : Nat} {k : FuncId} {args : List AV} (h : isTrueR (callX E m k args St0) = true) (hF : (E.F k).isSome = true) {w : World} {vs : List Value} (hv : VRL Gh0 w args vs) :
    Calls E.P k vs.toArray w fun e w' => e = .returned (.bool true) ∧ Below w.heap.size w w' := by
  cases hr : callX E m k args St0 with
  | fail => rw [hr] at h; cases h
  | pan a S => rw [hr] at h; cases h
  | ret a S =>
    rw [hr] at h
    have hne : callX E m k args St0 ≠ .fail := by rw [hr]; exact fun e => by cases e
    have := callX_ok hE hI hmix m w.heap.size w k args St0 hne Gh0 w vs (SR.start w) (by rw [hG]; exact GR.none) hv hF
    rw [hr] at this
    refine this.mono fun e w' he => ?_
    obtain ⟨γ', v, h1, h2, h3, rfl⟩ := he
    unfold isTrueR at h
    split at h
    · rename_i b S' heq
      injection heq with e1 e2
      subst e1; subst h
      cases h3
      exact ⟨rfl, h1.below⟩
    · cases h
theorem codeX_true (hE : E.Ok) (hI : IntrOk E) (hmix : E.P.follows .mixedOrders = true) (hG : E.G = fun _ => none) {m n t : Nat} {c : Code} {f : T AV} (h : endsTrue t ((comp E n c none).c (callX E m) f [] St0) = true) {Q : Exit → Act → World → Prop} {act : Act} {w : World} (hf : FR Gh0 w f act.tmps) (hn : act.tmps.size = n) (hd : act.defers = [])
    (hQ : ∀ act' w', act'.tmps.size = n → act'.defers = [] → act'.tmps[t]? = some (.bool true) → Below w.heap.size w w' → Q .ret act' w') : c.wp E.P Q act w := by
  rcases comp_ok (E := E) (n := n) (callX_F m) c none f [] St0 with h0 | ⟨j, h0⟩
  · rw [h0] at h; cases h
  rw [← h0] at h
  have h : endsTrue t (runC E (drawnNew E) (callX E m) j n c ⟨f, []⟩ St0) = true := h
  refine (runC_sound hE (drawnNew_ok hE hmix) (callX_ok hE hI hmix m) j).code w.heap.size w Q n c Gh0 St0 w ⟨f, []⟩ act (SR.start w) ⟨hf, hn, by rw [hd]; trivial⟩ (by rw [hG]; exact GR.none) ?_
  cases hr : runC E (drawnNew E) (callX E m) j n c ⟨f, []⟩ St0 with
  | fail => rw [hr] at h; cases h
  | out e f' S' =>
    rw [hr] at h
    cases e with
    | normal => cases h
    | exit i => cases h
    | pan a => cases h
    | ret =>
      intro γ' act' w' h1 h2 h3
      show Q .ret act' w'
      simp only [endsTrue] at h
      split at h
      · rename_i hdf
        split at h
        · rename_i b hb
          subst h
          obtain ⟨k1, k2⟩ := h3.tmps t _ hb
          have hdd := h3.dfr
          have hd' : act'.defers = [] := by
            rw [hdf] at hdd
            cases hx : act'.defers with
            | nil => rfl
            | cons a r => rw [hx] at hdd; exact hdd.elim
          refine hQ act' w' h3.size hd' ?_ h1.below
          have e1 : act'.tmps[t]? = some (act'.tmps[t]) := Array.getElem?_eq_getElem k1
          have e2 : act'.tmps.getD t undef = act'.tmps[t] := by simp [k1]
          rw [e1]
          rw [e2] at k2
          generalize act'.tmps[t] = z at k2
          cases k2
          rfl
        · cases h
      · cases h
end
end Go.Ax
