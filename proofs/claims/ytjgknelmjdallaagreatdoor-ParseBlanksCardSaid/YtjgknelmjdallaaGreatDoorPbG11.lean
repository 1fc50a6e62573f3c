/- Xc -/
import Derived.Test.YtjgknelmjdallaaGreatDoorPbG10
set_option linter.unusedVariables false
set_option linter.unusedSimpArgs false
noncomputable section
namespace Go.Ax
open Go.RowKit
def Hp (k : Ck) (ck : D7) (r : O) : O := O.rec (motive := fun _ => O) (fun e f S => Ex.rec (motive := fun _ => O) (k ck f.tmps f.dfr S) (fun i => .out (.exit i) f S) (.out .ret f S) (fun a => .out (.pan a) f S) e) .fail r
def J9 : Bx := ⟨fun _ _ _ _ => .fail⟩
def Kh : Bx := ⟨fun _ t d S => .out .normal ⟨t, d⟩ S⟩
def idS : SB := ⟨fun t _ => t⟩
def vL (n : Nat) (dst : Option Tmp) : Option SB := match dst with
 | none => some idS
 | some d => if d < n then some (setS d) else none
theorem Mj {n : Nat} {dst : Option Tmp} {s : SB} (h : vL n dst = some s) (t : T AV) (d : List Dfr) (a : AV) (S : St) : Kg n ⟨t, d⟩ dst a S = .out .normal ⟨s.s t a, d⟩ S := by
 cases dst with
 | none => injection h with h; subst h; rfl
 | some x =>
  simp only [vL] at h
  split at h
  ·rename_i hx
   injection h with h; subst h
   simp only [Kg, if_pos hx, qB]
  ·cases h
def Rf (x y : O) : Prop := x = .fail ∨ x = y
theorem Rf.refl (x : O) : Rf x x := .inr rfl
def CkF (E : Env) (ck : D7) : Prop := ∀ k args S, ck k args S ≠ .fail → (E.F k).isSome = true
def Pw (E : Env) (callK : D7) (n : Nat) (o : Oper) (f : Fr) (S : St) : O := match Bd E f.tmps S o with
  | .val a S' => Kg n f o.dst a S'
  | .skip S' => Kg n f o.dst (.tup []) S'
  | .enter k args S' => match callK k args S' with
   | .ret a S'' => Kg n f o.dst a S''
   | .pan a S'' => .out (.pan a) f S''
   | .fail => .fail
  | .dfr fn caps args S' => Kg n { f with dfr := ⟨fn, caps, args⟩ :: f.dfr } o.dst (.tup []) S'
  | .pan a S' => .out (.pan a) f S'
  | .fail => .fail
def xH (s : SB) (k : Bx) (ck : D7) (t : T AV) (d : List Dfr) (r : R) : O := R.rec (motive := fun _ => O) (fun a S => k.c ck (s.s t a) d S) (fun a S => .out (.pan a) ⟨t, d⟩ S) .fail r
def vX (s : SB) (k : Bx) (ck : D7) (t : T AV) (d : List Dfr) (r : OR) : O := OR.rec (motive := fun _ => O) (fun a S => k.c ck (s.s t a) d S) (fun S => k.c ck (s.s t (.tup [])) d S) (fun f args S => xH s k ck t d (ck f args S)) (fun fn caps args S => k.c ck (s.s t (.tup [])) (⟨fn, caps, args⟩ :: d) S) (fun a S => .out (.pan a) ⟨t, d⟩ S) .fail r
def pW (E : Env) (o : Oper) (s : SB) (k : Bx) : Bx := ⟨fun ck t d S => vX s k ck t d (Qs E t S o)⟩
def lookB (v : VB) (s : SB) (k : Bx) : Bx := ⟨fun ck t d S => Option.rec (motive := fun _ => O) .fail (fun a => k.c ck (s.s t a) d S) (v.v t S)⟩
def stC (S : St) (id off : Nat) (b : AV) (kk : St → O) (c : Option Cell) : O := Option.rec (motive := fun _ => O) .fail (fun c => Cell.rec (motive := fun _ => O) (fun cs => Option.rec (motive := fun _ => O) .fail (fun r => kk ⟨S.next, S.mem.set id (some (.box r))⟩) (Lk off (Le b) cs)) (fun _ => .fail) (fun _ => .fail) c) c
def st1 (sz : Nat) (S : St) (b : AV) (kk : St → O) (a : AV) : O := PV.rec (motive := fun _ => O) (fun id off => Bool.rec (motive := fun _ => O) .fail (stC S id off b kk (S.mem.get id)) (L1 b sz)) (fun _ => .fail) .fail (fun _ _ _ _ => .fail) (fun _ => .fail) (fun _ => .fail) .fail (fun _ _ _ _ => .fail) a.pv
def storeB (sz : Nat) (gx gy : GB) (s : SB) (k : Bx) : Bx := ⟨fun ck t d S => Option.rec (motive := fun _ => O) .fail (fun a => Option.rec (motive := fun _ => O) .fail (fun b => st1 sz S b (fun S' => k.c ck (s.s t (.tup [])) d S') a) (gy.g t)) (gx.g t)⟩
def dV (l : List GB) (t : T AV) : Option (List AV) := List.rec (motive := fun _ => Option (List AV)) (some []) (fun g _ ih => Option.rec (motive := fun _ => Option (List AV)) none (fun a => Nh a ih) (g.g t)) l
def callFB (f : FuncId) (args : List GB) (s : SB) (k : Bx) : Bx := ⟨fun ck t d S => Option.rec (motive := fun _ => O) .fail (fun l => xH s k ck t d (ck f l S)) (dV args t)⟩
def Z0 (s : SB) (k : Bx) (ck : D7) (t : T AV) (d : List Dfr) (S : St) (args : List AV) (a : AV) : O := match a with
 | .fn (.func f) first caps => xH s k ck t d (ck f (first ++ args ++ caps) S)
 | _ => .fail
def callCB (g : GB) (args : List GB) (s : SB) (k : Bx) : Bx := ⟨fun ck t d S => Option.rec (motive := fun _ => O) .fail (fun a => Option.rec (motive := fun _ => O) .fail (fun l => Z0 s k ck t d S l a) (dV args t)) (g.g t)⟩
def allocB (z : List AV) (s : SB) (k : Bx) : Bx := ⟨fun ck t d S => k.c ck (s.s t (.ptr S.next 0)) d ⟨Nat.succ S.next, S.mem.set S.next (some (.box z))⟩⟩
def boxB (g : GB) (s : SB) (k : Bx) : Bx := ⟨fun ck t d S => Option.rec (motive := fun _ => O) .fail (fun a => Bool.rec (motive := fun _ => O) .fail (k.c ck (s.s t (.ptr S.next 0)) d ⟨Nat.succ S.next, S.mem.set S.next (some (.box (Le a)))⟩) (Y0 a)) (g.g t)⟩
def vW (P : Program) (e : TypeId) : Option (List AV) := match P.info? e with
 | some i => match i.zero with
  | some z => match Be 8 z with
   | some a => if a.noTup then some a.cells else none
   | none => none
  | none => none
 | none => none
def Zv (E : Env) (o : Oper) (s : SB) (k : Bx) : Bx := if Gc o then lookB (iB E o) s k else match o.op with
 | .store t x y => match Fd E.P t with
  | some n => storeB n (opG E.G x) (opG E.G y) s k
  | none => J9
 | .alloc e => match vW E.P e with
  | some z => allocB z s k
  | none => J9
 | .box _ x => boxB (opG E.G x) s k
 | .call c => match c.callee with
  | .value (.func f) => callFB f (c.args.toList.map (opG E.G)) s k
  | .value x => callCB (opG E.G x) (c.args.toList.map (opG E.G)) s k
  | _ => pW E o s k
 | _ => pW E o s k
theorem Z6 (G : Gl) (t : T AV) : ∀ xs : List Operand, dV (xs.map (opG G)) t = B0 (Bc G t) xs
 | [] => rfl
 | x :: r => by
  have ih := Z6 G t r
  show Option.rec (motive := fun _ => Option (List AV)) none (fun a => Nh a (dV (r.map (opG G)) t)) ((opG G x).g t) = _
  rw [ih, Gk]
  simp only [B0]
  cases Bc G t x <;> cases B0 (Bc G t) r <;> rfl
section
variable {E : Env} {n : Nat} {o : Oper} {s : SB} {k : Bx} {ck : D7} {t : T AV} {d : List Dfr} {S : St}
theorem qI (hs : vL n o.dst = some s) (r : R) : xH s k ck t d r = Hp k.c ck (match r with
   | .ret a S'' => Kg n ⟨t, d⟩ o.dst a S''
   | .pan a S'' => .out (.pan a) ⟨t, d⟩ S''
   | .fail => .fail) := by
 cases r with
 | ret a S' => simp only [Mj hs]; rfl
 | pan a S' => rfl
 | fail => rfl
theorem wU (hs : vL n o.dst = some s) : (pW E o s k).c ck t d S = Hp k.c ck (Pw E ck n o ⟨t, d⟩ S) := by
 show vX s k ck t d (Qs E t S o) = _
 rw [Ow]
 unfold Pw
 cases Bd E t S o with
 | val a S' => simp only [Mj hs]; rfl
 | skip S' => simp only [Mj hs]; rfl
 | enter f args S' => exact qI hs _
 | dfr fn caps args S' => simp only [Mj hs]; rfl
 | pan a S' => rfl
 | fail => rfl
theorem st1_ok {P : Program} {sz : Nat} {ty : TypeId} {a b : AV} {kk : St → O} (hz : Fd P ty = some sz) : st1 sz S b kk a = .fail ∨ ∃ S', C5 P S ty a b = some S' ∧ st1 sz S b kk a = kk S' := by
 unfold st1
 cases hp : a.pv with
 | p id off =>
  rw [pv_p hp]
  show Bool.rec (motive := fun _ => O) .fail (stC S id off b kk (S.mem.get id)) (L1 b sz) = .fail ∨ ∃ S', _ ∧ Bool.rec (motive := fun _ => O) .fail (stC S id off b kk (S.mem.get id)) (L1 b sz) = kk S'
  cases hk : L1 b sz with
  | false => exact .inl rfl
  | true =>
   obtain ⟨k1, k2⟩ := Qi hk
   show stC S id off b kk (S.mem.get id) = .fail ∨ ∃ S', _ ∧ stC S id off b kk (S.mem.get id) = kk S'
   cases hm : S.mem.get id with
   | none => exact .inl rfl
   | some c =>
    cases c with
    | box cs =>
     show Option.rec (motive := fun _ => O) .fail (fun r => kk ⟨S.next, S.mem.set id (some (.box r))⟩) (Lk off (Le b) cs) = .fail ∨ ∃ S', _ ∧ Option.rec (motive := fun _ => O) .fail (fun r => kk ⟨S.next, S.mem.set id (some (.box r))⟩) (Lk off (Le b) cs) = kk S'
     cases ho : Lk off (Le b) cs with
     | none => exact .inl rfl
     | some r =>
      obtain ⟨k3, k4⟩ := O8 _ _ _ _ ho
      rw [Oy] at k3 k4
      refine .inr ⟨⟨S.next, S.mem.set id (some (.box r))⟩, ?_, rfl⟩
      simp only [C5, hm, hz, k1, k2, beq_self_eq_true, Bool.true_and]
      rw [if_pos (by rw [k2] at k3; simpa using k3), k4, k2]
    | tip m => exact .inl rfl
    | mp es => exact .inl rfl
 | e => exact .inl rfl
 | n => exact .inl rfl
 | l => exact .inl rfl
 | a => exact .inl rfl
 | t => exact .inl rfl
 | no => exact .inl rfl
 | w => exact .inl rfl
theorem coreB_ok (hck : CkF E ck) (hs : vL n o.dst = some s) : Rf ((Zv E o s k).c ck t d S) (Hp k.c ck (Pw E ck n o ⟨t, d⟩ S)) := by
 have slow : Rf ((pW E o s k).c ck t d S) (Hp k.c ck (Pw E ck n o ⟨t, d⟩ S)) := .inr (wU hs)
 unfold Zv
 split
 ·rename_i hl
  show Rf (Option.rec (motive := fun _ => O) .fail (fun a => k.c ck (s.s t a) d S) ((iB E o).v t S)) _
  cases hv : (iB E o).v t S with
  | none => exact .inl rfl
  | some a =>
   have := pR hl t S a hv
   refine .inr ?_
   simp only [Pw, this, Mj hs]; rfl
 ·split
  ·rename_i ty x y ho
   split
   ·rename_i sz hz
    show Rf (Option.rec (motive := fun _ => O) .fail (fun a => Option.rec (motive := fun _ => O) .fail (fun b => st1 sz S b (fun S' => k.c ck (s.s t (.tup [])) d S') a) ((opG E.G y).g t)) ((opG E.G x).g t)) _
    rw [Gk, Gk]
    cases hx : Bc E.G t x with
    | none => exact .inl rfl
    | some a =>
     cases hy : Bc E.G t y with
     | none => exact .inl rfl
     | some b =>
      show Rf (st1 sz S b (fun S' => k.c ck (s.s t (.tup [])) d S') a) _
      rcases st1_ok (S := S) (a := a) (b := b) (kk := fun S' => k.c ck (s.s t (.tup [])) d S') hz with h | ⟨S', h1, h2⟩
      ·exact .inl h
      ·refine .inr (h2.trans ?_)
       simp only [Pw, Bd, ho, hx, hy, h1, Mj hs]; rfl
   ·exact .inl rfl
  ·rename_i e ho
   split
   ·rename_i z hz
    refine .inr ?_
    unfold vW at hz
    split at hz
    ·rename_i i hi
     split at hz
     ·rename_i z0 hz0
      split at hz
      ·rename_i a ha
       split at hz
       ·rename_i hn
        injection hz with hz; subst hz
        simp only [Pw, Bd, ho, Iw, hi, hz0, ha, if_pos hn, ofOptS, Mj hs]; rfl
       ·cases hz
      ·cases hz
     ·cases hz
    ·cases hz
   ·exact .inl rfl
  ·rename_i e x ho
   show Rf (Option.rec (motive := fun _ => O) .fail (fun a => Bool.rec (motive := fun _ => O) .fail (k.c ck (s.s t (.ptr S.next 0)) d ⟨Nat.succ S.next, S.mem.set S.next (some (.box (Le a)))⟩) (Y0 a)) ((opG E.G x).g t)) _
   rw [Gk]
   cases hx : Bc E.G t x with
   | none => exact .inl rfl
   | some a =>
    show Rf (Bool.rec (motive := fun _ => O) .fail (k.c ck (s.s t (.ptr S.next 0)) d ⟨Nat.succ S.next, S.mem.set S.next (some (.box (Le a)))⟩) (Y0 a)) _
    rw [bZ, Oy]
    cases hn : a.noTup with
    | false => exact .inl rfl
    | true =>
     refine .inr ?_
     simp only [Pw, Bd, ho, hx, if_pos hn, Mj hs]; rfl
  ·rename_i c ho
   have fnc : ∀ (g : AV) (l : List AV), (∃ x, c.callee = .value x ∧ Bc E.G t x = some g) → B0 (Bc E.G t) c.args.toList = some l → Rf (Z0 s k ck t d S l g) (Hp k.c ck (Pw E ck n o ⟨t, d⟩ S)) := by
    rintro g l ⟨x, hc, hx⟩ hl
    unfold Z0
    split
    ·rename_i f first caps
     cases hF : E.F f with
     | none =>
      have : ck f (first ++ l ++ caps) S = .fail := by
       cases hr : ck f (first ++ l ++ caps) S with
       | fail => rfl
       | ret a S' => have := hck f (first ++ l ++ caps) S (by rw [hr]; exact fun e => by cases e); rw [hF] at this; cases this
       | pan a S' => have := hck f (first ++ l ++ caps) S (by rw [hr]; exact fun e => by cases e); rw [hF] at this; cases this
      rw [this]; exact .inl rfl
     | some fn =>
      refine .inr ?_
      rw [qI hs]
      simp only [Pw, Bd, ho, Bm, hc, hx, hl, hF]
    ·exact .inl rfl
   split
   ·rename_i f hc
    show Rf (Option.rec (motive := fun _ => O) .fail (fun l => xH s k ck t d (ck f l S)) (dV (c.args.toList.map (opG E.G)) t)) _
    rw [Z6]
    cases hl : B0 (Bc E.G t) c.args.toList with
    | none => exact .inl rfl
    | some l =>
     have := fnc (.fn (.func f) [] []) l ⟨_, hc, rfl⟩ hl
     simpa [Z0] using this
   ·rename_i x hc hne
    show Rf (Option.rec (motive := fun _ => O) .fail (fun a => Option.rec (motive := fun _ => O) .fail (fun l => Z0 s k ck t d S l a) (dV (c.args.toList.map (opG E.G)) t)) ((opG E.G x).g t)) _
    rw [Z6, Gk]
    cases hx : Bc E.G t x with
    | none => exact .inl rfl
    | some g =>
     cases hl : B0 (Bc E.G t) c.args.toList with
     | none => exact .inl rfl
     | some l => exact fnc g l ⟨x, hne, hx⟩ hl
   ·exact slow
  ·exact slow
def Ya (s : SB) (k : Bx) : Bx := ⟨fun ck t d S => k.c ck (s.s t (.tup [])) d S⟩
def Ky (a : AV) : Bool := PV.rec (motive := fun _ => Bool) (fun _ _ => false) (fun _ => false) false (fun _ _ _ _ => false) (fun _ => false) (fun _ => true) false (fun _ _ _ _ => false) a.pv
def xB (x y : Bool) : Bool := Bool.rec (motive := fun _ => Bool) (uF y) y x
def fX (want : Bool) (x y : Bx) (a : AV) : Bx := SV.rec (motive := fun _ => Bx) (fun b => Bool.rec (motive := fun _ => Bx) y x (xB b want)) (fun _ _ => J9) (fun _ => J9) (Bool.rec (motive := fun _ => Bx) J9 y (Ky a)) a.sv
def guardB (g : GB) (want : Bool) (x y : Bx) : Bx := ⟨fun ck t d S => Option.rec (motive := fun _ => O) .fail (fun a => (fX want x y a).c ck t d S) (g.g t)⟩
def opB (E : Env) (n : Nat) (ops : Array Oper) (o : Oper) (k : Bx) : Bx := match vL n o.dst with
 | none => J9
 | some s => match o.guard with
  | none => Zv E o s k
  | some (j, want) => match (ops[j]?).bind (·.dst) with
   | none => Ya s k
   | some d => guardB (gA d) want (Zv E o s k) (Ya s k)
theorem xV {ops : Array Oper} (hck : CkF E ck) : Rf ((opB E n ops o k).c ck t d S) (Hp k.c ck (Ey E ck n ops o ⟨t, d⟩ S)) := by
 unfold opB
 split
 ·exact .inl rfl
 ·rename_i s hs
  have skip : (Ya s k).c ck t d S = Hp k.c ck (Kg n ⟨t, d⟩ o.dst (.tup []) S) := by rw [Mj hs]; rfl
  have core := coreB_ok (E := E) (n := n) (o := o) (k := k) (t := t) (d := d) (S := S) hck hs
  split
  ·rename_i hg
   have : Ey E ck n ops o ⟨t, d⟩ S = Pw E ck n o ⟨t, d⟩ S := by unfold Ey A4; rw [hg]; rfl
   rw [this]; exact core
  ·rename_i j want hg
   split
   ·rename_i hj
    have : Ey E ck n ops o ⟨t, d⟩ S = Kg n ⟨t, d⟩ o.dst (.tup []) S := by unfold Ey A4; rw [hg]; simp only [hj]
    rw [this]; exact .inr skip
   ·rename_i d0 hj
    show Rf (Option.rec (motive := fun _ => O) .fail (fun a => (fX want (Zv E o s k) (Ya s k) a).c ck t d S) ((gA d0).g t)) _
    rw [T7]
    cases hx : t.get d0 with
    | none => exact .inl rfl
    | some a =>
     show Rf ((fX want (Zv E o s k) (Ya s k) a).c ck t d S) _
     unfold fX
     cases hv : a.sv with
     | b b =>
      have ha := sv_b hv
      subst ha
      have hw : A4 ops o t = some (b == want) := by unfold A4; rw [hg]; simp only [hj, hx]
      show Rf ((Bool.rec (motive := fun _ => Bx) (Ya s k) (Zv E o s k) (xB b want)).c ck t d S) _
      have hb : xB b want = (b == want) := by cases b <;> cases want <;> rfl
      rw [hb]
      cases hbw : (b == want) with
      | false =>
       have : Ey E ck n ops o ⟨t, d⟩ S = Kg n ⟨t, d⟩ o.dst (.tup []) S := by unfold Ey; simp only [hw, hbw]
       rw [this]; exact .inr skip
      | true =>
       have : Ey E ck n ops o ⟨t, d⟩ S = Pw E ck n o ⟨t, d⟩ S := by unfold Ey; simp only [hw, hbw]; rfl
       rw [this]; exact core
     | i => exact .inl rfl
     | s => exact .inl rfl
     | no =>
      show Rf ((Bool.rec (motive := fun _ => Bx) J9 (Ya s k) (Ky a)).c ck t d S) _
      cases hp : a.pv with
      | t vs =>
       have : Ky a = true := by unfold Ky; rw [hp]
       rw [this]
       have ha := pv_t hp
       subst ha
       have hw : A4 ops o t = some false := by unfold A4; rw [hg]; simp only [hj, hx]
       have : Ey E ck n ops o ⟨t, d⟩ S = Kg n ⟨t, d⟩ o.dst (.tup []) S := by unfold Ey; simp only [hw]
       rw [this]; exact .inr skip
      | p =>
       have : Ky a = false := by unfold Ky; rw [hp]
       rw [this]; exact .inl rfl
      | e =>
       have : Ky a = false := by unfold Ky; rw [hp]
       rw [this]; exact .inl rfl
      | n =>
       have : Ky a = false := by unfold Ky; rw [hp]
       rw [this]; exact .inl rfl
      | l =>
       have : Ky a = false := by unfold Ky; rw [hp]
       rw [this]; exact .inl rfl
      | a =>
       have : Ky a = false := by unfold Ky; rw [hp]
       rw [this]; exact .inl rfl
      | no =>
       have : Ky a = false := by unfold Ky; rw [hp]
       rw [this]; exact .inl rfl
      | w =>
       have : Ky a = false := by unfold Ky; rw [hp]
       rw [this]; exact .inl rfl
def xU (E : Env) (n : Nat) (ops : Array Oper) (l : List Oper) : Bx → Bx := List.rec (motive := fun _ => Bx → Bx) (fun k => k) (fun o _ ih k => opB E n ops o (ih k)) l
end
theorem qO {E : Env} {n : Nat} {ops : Array Oper} {ck : D7} (hck : CkF E ck) (k : Bx) : ∀ (l : List Oper) (t : T AV) (d : List Dfr) (S : St), Rf ((xU E n ops l k).c ck t d S) (Hp k.c ck (Yd E ck n ops l ⟨t, d⟩ S))
 | [], t, d, S => .inr rfl
 | o :: r, t, d, S => by
  have h := xV (E := E) (n := n) (o := o) (ops := ops) (k := xU E n ops r k) (t := t) (d := d) (S := S) hck
  show Rf ((opB E n ops o (xU E n ops r k)).c ck t d S) _
  rcases h with h | h
  ·exact .inl h
  ·rw [h]
   unfold Yd
   cases Ey E ck n ops o ⟨t, d⟩ S with
   | fail => exact .inl rfl
   | out e f' S' =>
    cases e with
    | normal => exact qO hck k r f'.tmps f'.dfr S'
    | exit i => exact .inr rfl
    | ret => exact .inr rfl
    | pan a => exact .inr rfl
def re1 (k : Bx) (ck : D7) (t : T AV) (d : List Dfr) (S : St) (b a : Option AV) : O := Option.rec (motive := fun _ => O) .fail (fun b => Option.rec (motive := fun _ => O) .fail (fun a => Bool.rec (motive := fun _ => O) .fail (k.c ck t d S) (Gt b a)) a) b
def reB (E : Env) (ops : Array Oper) (o : Oper) (k : Bx) : Bx := match o.guard, o.dst, Gc o with
 | none, some d0, true => ⟨fun ck t d S => re1 k ck t d S ((gA d0).g t) ((iB E o).v t S)⟩
 | _, _, _ => ⟨fun ck t d S => Bool.rec (motive := fun _ => O) .fail (k.c ck t d S) (Du E ops o t S)⟩
theorem reB_ok {E : Env} {ops : Array Oper} {o : Oper} {k : Bx} {ck : D7} {t : T AV} {d : List Dfr} {S : St} : Rf ((reB E ops o k).c ck t d S) (if Du E ops o t S then k.c ck t d S else .fail) := by
 have slow : Rf (Bool.rec (motive := fun _ => O) .fail (k.c ck t d S) (Du E ops o t S)) (if Du E ops o t S then k.c ck t d S else .fail) := by
  cases Du E ops o t S <;> exact .inr rfl
 unfold reB
 split
 ·rename_i d0 hg hd hl
  show Rf (re1 k ck t d S ((gA d0).g t) ((iB E o).v t S)) _
  rw [T7]
  cases hb : t.get d0 with
  | none => exact .inl rfl
  | some b =>
   cases hv : (iB E o).v t S with
   | none => exact .inl rfl
   | some a =>
    have h1 := pR hl t S a hv
    have h2 : Ec E ops o t S = some a := by unfold Ec A4; rw [hg]; simp only [h1]
    have h3 : Du E ops o t S = Gt b a := by unfold Du; rw [h2, hd]; simp only [hb]
    rw [h3]
    show Rf (Bool.rec (motive := fun _ => O) .fail (k.c ck t d S) (Gt b a)) _
    cases Gt b a <;> exact .inr rfl
 ·exact slow
def rsB (E : Env) (n : Nat) (ops : Array Oper) (l : List RS) : Bx → Bx := List.rec (motive := fun _ => Bx → Bx) (fun k => k) (fun s _ ih k => RS.rec (motive := fun _ => Bx) (fun o => opB E n ops o (ih k)) (fun o => reB E ops o (ih k)) s) l
theorem P9 {E : Env} {n : Nat} {ops : Array Oper} {ck : D7} (hck : CkF E ck) (k : Bx) : ∀ (l : List RS) (t : T AV) (d : List Dfr) (S : St), Rf ((rsB E n ops l k).c ck t d S) (Hp k.c ck (Ea E ck n ops l ⟨t, d⟩ S))
 | [], t, d, S => .inr rfl
 | .op o :: r, t, d, S => by
  have h := xV (E := E) (n := n) (o := o) (ops := ops) (k := rsB E n ops r k) (t := t) (d := d) (S := S) hck
  show Rf ((opB E n ops o (rsB E n ops r k)).c ck t d S) _
  rcases h with h | h
  ·exact .inl h
  ·rw [h]
   have e : Ea E ck n ops (.op o :: r) ⟨t, d⟩ S = match Ey E ck n ops o ⟨t, d⟩ S with
    | .out .normal f' S' => Ea E ck n ops r f' S'
    | r => r := rfl
   rw [e]
   cases Ey E ck n ops o ⟨t, d⟩ S with
   | fail => exact .inl rfl
   | out e f' S' =>
    cases e with
    | normal => exact P9 hck k r f'.tmps f'.dfr S'
    | exit i => exact .inr rfl
    | ret => exact .inr rfl
    | pan a => exact .inr rfl
 | .re o :: r, t, d, S => by
  have h := reB_ok (E := E) (o := o) (ops := ops) (k := rsB E n ops r k) (ck := ck) (t := t) (d := d) (S := S)
  show Rf ((reB E ops o (rsB E n ops r k)).c ck t d S) _
  have e : Ea E ck n ops (.re o :: r) ⟨t, d⟩ S = if Du E ops o t S then Ea E ck n ops r ⟨t, d⟩ S else .fail := rfl
  rw [e]
  rcases h with h | h
  ·exact .inl h
  ·rw [h]
   cases Du E ops o t S with
   | false => exact .inl rfl
   | true => exact P9 hck k r t d S
def drawS (E : Env) (n : Nat) (ops : Array Oper) (k : Bx) : Bx := ⟨fun ck t d S => Hp k.c ck (Sj E ck n ops ⟨t, d⟩ S)⟩
def Rb (l : List RS) : Bool := l.all fun s => match s with
 | .op o => Gc o
 | .re _ => true
def fixB (E : Env) (n : Nat) (ops : Array Oper) (l : List RS) (k : Bx) : Bx := ⟨fun ck t d S => Hp k.c ck (Jr ⟨Fv ops.toList t, d⟩ ((rsB E n ops l Kh).c ck t d S))⟩
def sH (E : Env) (n : Nat) (ops : Array Oper) (k : Bx) : Bx :=
 let ms := bm ops.toList []
 let order := Kz ops ms ops.size (List.range ops.size) 0
 if Nz ops ms order then (match K3 ops ms order [] with
  | some rs => if Rb rs then rsB E n ops rs k else fixB E n ops rs k
  | none => drawS E n ops k) else drawS E n ops k
def drawF (E : Env) (n : Nat) (ops : Array Oper) (x : FlP) (k : Bx) : Bx := match O0 ops x with
 | some rs => if x.d < n then ⟨fun ck t d S => Hp k.c ck (Jr ⟨Fv ops.toList t, d⟩ ((rsB E n ops rs Kh).c ck (T.set t x.d none) d S))⟩ else J9
 | none => J9
def drawM (E : Env) (n : Nat) (ops : Array Oper) (x : MkX) (k : Bx) : Bx := match Tw ops x with
 | some rs => if jP E.P n ops x = true then ⟨fun ck t d S => Hp k.c ck (Jr ⟨Fv ops.toList t, d⟩ ((rsB E n ops rs Kh).c ck (Jo E.P ops x.mks t) d S))⟩ else J9
 | none => J9
def wL (P : Program) (ops : Array Oper) (M : List Nat) (k : D7 → T AV → List Dfr → St → O) (ck : D7) (r : O) : O := match r with
 | .out e f S => match e with
  | .normal => Bool.rec .fail (k ck f.tmps f.dfr S) (M.all (Zf P ops f.tmps))
  | _ => .fail
 | .fail => .fail
def oT (E : Env) (n : Nat) (ops : Array Oper) (x : MkX) (k : Bx) : Bx := match Tx ops x with
 | some (p, M, q) => if fP E.P n ops x = true then ⟨fun ck t d S => wL E.P ops M (fun ck t2 d2 S2 => Hp k.c ck (Jr ⟨Fv ops.toList t, d⟩ ((rsB E n ops q Kh).c ck t2 d2 S2))) ck ((rsB E n ops p Kh).c ck (Hy E.P ops x.mks t) d S)⟩ else J9
 | none => J9
def Qv (E : Env) (n : Nat) (ops : Array Oper) (k : Bx) : Bx := match Nb E.P ops with
 | some x => drawF E n ops x k
 | none => match Pd E.P ops with
  | some x => drawM E n ops x k
  | none => match Nu E.P ops with
   | some x => oT E n ops x k
   | none => sH E n ops k
theorem Lc (ck : D7) (r : O) : Hp Kh.c ck r = r := by
 cases r with
 | fail => rfl
 | out e f S => cases e <;> rfl
theorem P8 {E : Env} {ck : D7} {n : Nat} {ops : Array Oper} {fb : Fr} : ∀ (l : List RS) (f : Fr) (S : St), Rb l = true → Jr fb (Ea E ck n ops l f S) = Ea E ck n ops l f S
 | [], f, S, h => rfl
 | .op o :: r, f, S, h => by
  unfold Rb at h
  rw [List.all_cons, Bool.and_eq_true] at h
  have e : Ea E ck n ops (.op o :: r) f S = match Ey E ck n ops o f S with
    | .out .normal f' S' => Ea E ck n ops r f' S'
    | r => r := rfl
  rw [e, Mq, K4 h.1]
  cases Ec E ops o f.tmps S with
  | none => rfl
  | some a =>
   simp only
   rw [Kf]
   cases okD n o.dst with
   | false => rfl
   | true => exact P8 r _ S h.2
 | .re o :: r, f, S, h => by
  unfold Rb at h
  rw [List.all_cons, Bool.and_eq_true] at h
  have e : Ea E ck n ops (.re o :: r) f S = if Du E ops o f.tmps S then Ea E ck n ops r f S else .fail := rfl
  rw [e]
  cases Du E ops o f.tmps S with
  | false => rfl
  | true => exact P8 r f S h.2
theorem drawO_ok {E : Env} {n : Nat} {ops : Array Oper} {ck : D7} (hck : CkF E ck) (k : Bx) (t : T AV) (d : List Dfr) (S : St) : Rf ((sH E n ops k).c ck t d S) (Hp k.c ck (G0 E ck n ops ⟨t, d⟩ S)) := by
 have slow : Rf ((drawS E n ops k).c ck t d S) (Hp k.c ck (G0 E ck n ops ⟨t, d⟩ S)) := by
  refine .inr ?_
  show Hp k.c ck (Sj E ck n ops ⟨t, d⟩ S) = _
  rw [Vt]
 unfold sH
 simp only
 split
 ·rename_i hst
  split
  ·rename_i rs hrs
   have e : Ea E ck n ops rs ⟨t, d⟩ S = .fail ∨ G0 E ck n ops ⟨t, d⟩ S = Jr ⟨Fv ops.toList t, d⟩ (Ea E ck n ops rs ⟨t, d⟩ S) := by
    unfold G0
    simp only
    rw [if_pos hst]
    exact I7 _ rs _ _ [] hrs (fun _ h => absurd h List.not_mem_nil)
   split
   ·rename_i hlk
    have h := P9 (E := E) (n := n) (ops := ops) hck k rs t d S
    rcases h with h | h
    ·exact .inl h
    ·rw [h]
     rcases e with e | e
     ·rw [e]; exact .inl rfl
     ·rw [e, P8 rs _ _ hlk]; exact .inr rfl
   ·have h := P9 (E := E) (n := n) (ops := ops) hck Kh rs t d S
    rw [Lc] at h
    show Rf (Hp k.c ck (Jr ⟨Fv ops.toList t, d⟩ ((rsB E n ops rs Kh).c ck t d S))) _
    rcases h with h | h
    ·rw [h]; exact .inl rfl
    ·rw [h]
     rcases e with e | e
     ·rw [e]; exact .inl rfl
     ·rw [e]; exact .inr rfl
  ·exact slow
 ·exact slow
theorem drawB_ok {E : Env} {n : Nat} {ops : Array Oper} {ck : D7} (hck : CkF E ck) (k : Bx) (t : T AV) (d : List Dfr) (S : St) : Rf ((Qv E n ops k).c ck t d S) (Hp k.c ck (Cf E ck n ops ⟨t, d⟩ S)) := by
 cases hx : Nb E.P ops with
 | some x =>
  have e1 : Qv E n ops k = drawF E n ops x k := by unfold Qv; rw [hx]
  have e2 : Cf E ck n ops ⟨t, d⟩ S = Pn E x ck n ops ⟨t, d⟩ S := by unfold Cf; rw [hx]
  rw [e1, e2]
  unfold drawF Pn
  cases hrs : O0 ops x with
  | none => exact .inl rfl
  | some rs =>
   simp only
   split
   ·have h := P9 (E := E) (n := n) (ops := ops) hck Kh rs (T.set t x.d none) d S
    rw [Lc] at h
    show Rf (Hp k.c ck (Jr ⟨Fv ops.toList t, d⟩ ((rsB E n ops rs Kh).c ck (T.set t x.d none) d S))) _
    rcases h with h | h
    ·rw [h]; exact .inl rfl
    ·rw [h]; exact .inr rfl
   ·exact .inl rfl
 | none =>
  cases hy : Pd E.P ops with
  | some x =>
   have e1 : Qv E n ops k = drawM E n ops x k := by unfold Qv; rw [hx]; simp only [hy]
   have e2 : Cf E ck n ops ⟨t, d⟩ S = Pm E x ck n ops ⟨t, d⟩ S := by unfold Cf; rw [hx]; simp only [hy]
   rw [e1, e2]
   unfold drawM Pm
   cases hrs : Tw ops x with
   | none => exact .inl rfl
   | some rs =>
    simp only
    cases hc : jP E.P n ops x with
    | true =>
     have h := P9 (E := E) (n := n) (ops := ops) hck Kh rs (Jo E.P ops x.mks t) d S
     rw [Lc] at h
     rw [if_pos rfl, if_pos rfl]
     show Rf (Hp k.c ck (Jr ⟨Fv ops.toList t, d⟩ ((rsB E n ops rs Kh).c ck (Jo E.P ops x.mks t) d S))) _
     rcases h with h | h
     ·rw [h]; exact .inl rfl
     ·rw [h]; exact .inr rfl
    | false => rw [if_neg (by simp), if_neg (by simp)]; exact .inl rfl
  | none =>
  cases hz : Nu E.P ops with
  | some x =>
   have e1 : Qv E n ops k = oT E n ops x k := by unfold Qv; rw [hx]; simp only [hy, hz]
   have e2 : Cf E ck n ops ⟨t, d⟩ S = Ox E x ck n ops ⟨t, d⟩ S := by unfold Cf; rw [hx]; simp only [hy, hz]
   rw [e1, e2]
   unfold oT Ox
   cases hrs : Tx ops x with
   | none => exact .inl rfl
   | some rs =>
    obtain ⟨p, M, q⟩ := rs
    simp only
    cases hc : fP E.P n ops x with
    | false => rw [if_neg (by simp), if_neg (by simp)]; exact .inl rfl
    | true =>
     rw [if_pos rfl, if_pos rfl]
     have h := P9 (E := E) (n := n) (ops := ops) hck Kh p (Hy E.P ops x.mks t) d S
     rw [Lc] at h
     show Rf (wL E.P ops M (fun ck t2 d2 S2 => Hp k.c ck (Jr ⟨Fv ops.toList t, d⟩ ((rsB E n ops q Kh).c ck t2 d2 S2))) ck ((rsB E n ops p Kh).c ck (Hy E.P ops x.mks t) d S)) _
     rcases h with h | h
     ·rw [h]; exact .inl rfl
     ·rw [h]
      cases Ea E ck n ops p ⟨Hy E.P ops x.mks t, d⟩ S with
      | fail => exact .inl rfl
      | out e f' S' =>
       cases e with
       | exit i => exact .inl rfl
       | ret => exact .inl rfl
       | pan a => exact .inl rfl
       | normal =>
        show Rf (Bool.rec .fail (Hp k.c ck (Jr ⟨Fv ops.toList t, d⟩ ((rsB E n ops q Kh).c ck f'.tmps f'.dfr S'))) (M.all (Zf E.P ops f'.tmps))) (Hp k.c ck (if M.all (Zf E.P ops f'.tmps) = true then _ else .fail))
        cases M.all (Zf E.P ops f'.tmps) with
        | false => exact .inl rfl
        | true =>
         have h2 := P9 (E := E) (n := n) (ops := ops) hck Kh q f'.tmps f'.dfr S'
         rw [Lc] at h2
         show Rf (Hp k.c ck (Jr ⟨Fv ops.toList t, d⟩ ((rsB E n ops q Kh).c ck f'.tmps f'.dfr S'))) _
         rw [if_pos rfl]
         rcases h2 with h2 | h2
         ·rw [h2]; exact .inl rfl
         ·rw [h2]; exact .inr rfl
  | none =>
   have e1 : Qv E n ops k = sH E n ops k := by unfold Qv; rw [hx]; simp only [hy, hz]
   have e2 : Cf E ck n ops ⟨t, d⟩ S = G0 E ck n ops ⟨t, d⟩ S := by unfold Cf; rw [hx]; simp only [hy, hz]
   rw [e1, e2]
   exact drawO_ok hck k t d S
def Rg (E : Env) : Jm := fun ck n ops f S => match Nb E.P ops with
 | some x => Pn E x ck n ops f S
 | none => match Pd E.P ops with
  | some x => Pm E x ck n ops f S
  | none => match Nu E.P ops with
   | some x => Ox E x ck n ops f S
   | none => Sj E ck n ops f S
theorem gN (E : Env) : Rg E = Cf E := by
 unfold Rg
 rw [Vt]
 rfl
end Go.Ax
noncomputable section
namespace Go.Ax
open Go.RowKit
theorem eW {E : Env} {D : Jm} {callK : D7} {rec : Nat → Code → Fr → St → O} (hE : E.Ok) (hD : Pt E D) (hC : ∀ base w0, Jp E base w0 callK) (hR : CodeOk E rec) : CodeOk E (Ee E D rec callK) := by
 have loop : ∀ (base : Nat) (w0 : World) (Q : Exit → Act → World → Prop) (n : Nat) (c : Code) (γ : Gh) (S : St) (w : World) (f : Fr) (act : Act), SR base w0 γ S w → AR γ w n f act → GR γ w E.G →
   I0 base w0 n γ S w Q (Ee E D rec callK n (.loop c) f S) → LWp E.P c Q act w := by
  intro base w0 Q n c γ S w f act hS ha hg hH
  refine LWp.round (hR.code base w0 _ n c γ S w f act hS ha hg ?_)
  unfold Ee at hH
  simp only at hH
  split at hH
  ·rename_i f' S' hr
   rw [hr]
   intro γ' act' w' k1 k2 k3
   exact hR.loop base w0 Q n c γ' S' w' f' act' k1 k3 (hg.mono k2.ev) (hH.later k2)
  ·rename_i r hr
   cases hst : rec n c f S with
   | fail => rw [hst] at hH; exact hH.elim
   | out e f' S' =>
    rw [hst] at hH
    intro γ' act' w' k1 k2 k3
    have := hH γ' act' w' k1 k2 k3
    cases e with
    | normal => exact absurd hst (hr f' S')
    | exit id => exact this
    | ret => exact this
    | pan a => exact this
 refine ⟨fun base w0 Q n c γ S w f act hS ha hg hH => ?_, loop⟩
 cases c with
 | skip => exact wp_skip (hH γ act w hS (.refl _ _ _) ha)
 | label l => exact wp_label (hH γ act w hS (.refl _ _ _) ha)
 | region id ops draw =>
  cases draw with
  | false => exact wp_region_list (R9 hE (hC base w0) _ γ S w f act hS ha hg hH)
  | true => exact hD base w0 Q _ (hC base w0) n id ops γ S w f act hS ha hg hH
 | seq x y =>
  refine wp_seq (hR.code base w0 _ n x γ S w f act hS ha hg ?_)
  unfold Ee at hH
  simp only at hH
  split at hH
  ·rename_i f' S' hr
   rw [hr]
   intro γ' act' w' k1 k2 k3
   exact hR.code base w0 Q n y γ' S' w' f' act' k1 k3 (hg.mono k2.ev) (hH.later k2)
  ·rename_i r hr
   cases hst : rec n x f S with
   | fail => rw [hst] at hH; exact hH.elim
   | out e f' S' =>
    rw [hst] at hH
    intro γ' act' w' k1 k2 k3
    have := hH γ' act' w' k1 k2 k3
    cases e with
    | normal => exact absurd hst (hr f' S')
    | exit id => exact this
    | ret => exact this
    | pan a => exact this
 | cond c x y =>
  unfold Ee at hH
  simp only at hH
  split at hH
  ·rename_i hc
   have hv := Fa ha.tmps hg hc
   generalize hq : act.eval c = q at hv
   cases hv
   exact wp_cond_true hq (hR.code base w0 Q n x γ S w f act hS ha hg hH)
  ·rename_i hc
   have hv := Fa ha.tmps hg hc
   generalize hq : act.eval c = q at hv
   cases hv
   exact wp_cond_false hq (hR.code base w0 Q n y γ S w f act hS ha hg hH)
  ·exact hH.elim
 | block id c =>
  refine wp_block (hR.code base w0 _ n c γ S w f act hS ha hg ?_)
  unfold Ee at hH
  simp only at hH
  split at hH
  ·rename_i id' f' S' hr
   rw [hr]
   intro γ' act' w' k1 k2 k3
   show if id' = id then Q .normal act' w' else Q (.exit id') act' w'
   split
   ·rename_i he
    rw [if_pos he] at hH
    exact hH γ' act' w' k1 k2 k3
   ·rename_i he
    rw [if_neg he] at hH
    exact hH γ' act' w' k1 k2 k3
  ·rename_i r hr
   cases hst : rec n c f S with
   | fail => rw [hst] at hH; exact hH.elim
   | out e f' S' =>
    rw [hst] at hH
    intro γ' act' w' k1 k2 k3
    have := hH γ' act' w' k1 k2 k3
    cases e with
    | normal => exact this
    | exit id' => exact absurd hst (hr id' f' S')
    | ret => exact this
    | pan a => exact this
 | loop c => exact (loop base w0 Q n c γ S w f act hS ha hg hH).loop
 | exit id => exact wp_exit (hH γ act w hS (.refl _ _ _) ha)
 | ret => exact wp_ret (hH γ act w hS (.refl _ _ _) ha)
 | rangeFunc => exact hH.elim
 | scope => exact hH.elim
 | goto => exact hH.elim
 | refuse => exact hH.elim
def G9 (E : Env) (D : Jm) (ck : D7) : Nat → Nat → Code → Fr → St → O :=
 Nat.rec (fun _ _ _ _ => .fail) (fun _ ih => Ee E D ih ck)
theorem Sa {E : Env} {D : Jm} {ck : D7} (hE : E.Ok) (hD : Pt E D) (hC : ∀ base w0, Jp E base w0 ck) : ∀ m, CodeOk E (G9 E D ck m)
 | 0 => ⟨fun _ _ _ _ _ _ _ _ _ _ _ _ _ h => h.elim, fun _ _ _ _ _ _ _ _ _ _ _ _ _ h => h.elim⟩
 | m + 1 => eW hE hD hC (Sa hE hD hC m)
theorem bG {E : Env} {D : Jm} {ck : D7} : ∀ (m n : Nat) (c : Code) (f : Fr) (S : St), G9 E D ck m n c f S ≠ .fail → G9 E D ck (m + 1) n c f S = G9 E D ck m n c f S
 | 0, n, c, f, S, h => absurd rfl h
 | m + 1, n, c, f, S, h => by
  have ih := bG (E := E) (D := D) (ck := ck) m
  have e1 : ∀ m n c f S, G9 E D ck (m + 1) n c f S = Ee E D (G9 E D ck m) ck n c f S := fun _ _ _ _ _ => rfl
  rw [e1] at h ⊢
  rw [e1 m]
  have sub : ∀ (c : Code) (f : Fr) (S : St) (r : O), G9 E D ck m n c f S = r → r ≠ .fail → G9 E D ck (m + 1) n c f S = r := fun c f S r hr hne => (ih n c f S (by rw [hr]; exact hne)).trans hr
  cases c with
  | seq a b =>
   simp only [Ee] at h ⊢
   cases hr : G9 E D ck m n a f S with
   | fail => rw [hr] at h; exact absurd rfl h
   | out e f' S' =>
    rw [sub _ _ _ _ hr (fun e => by cases e)]
    rw [hr] at h
    cases e with
    | normal => exact ih n b f' S' h
    | _ => rfl
  | loop a =>
   simp only [Ee] at h ⊢
   cases hr : G9 E D ck m n a f S with
   | fail => rw [hr] at h; exact absurd rfl h
   | out e f' S' =>
    rw [sub _ _ _ _ hr (fun e => by cases e)]
    rw [hr] at h
    cases e with
    | normal => exact ih n (.loop a) f' S' h
    | _ => rfl
  | block id a =>
   simp only [Ee] at h ⊢
   cases hr : G9 E D ck m n a f S with
   | fail => rw [hr] at h; exact absurd rfl h
   | out e f' S' => rw [sub _ _ _ _ hr (fun e => by cases e)]
  | cond x a b =>
   simp only [Ee] at h ⊢
   split at h
   ·exact ih n a f S h
   ·exact ih n b f S h
   ·exact absurd rfl h
  | region id ops dr => cases dr <;> rfl
  | _ => rfl
theorem W8 {E : Env} {D : Jm} {ck : D7} {m m' n : Nat} {c : Code} {f : Fr} {S : St} (hm : m ≤ m') (h : G9 E D ck m n c f S ≠ .fail) : G9 E D ck m' n c f S = G9 E D ck m n c f S := by
 induction hm with
 | refl => rfl
 | step hm ih => rw [bG _ _ _ _ _ (by rw [ih]; exact h), ih]
def O9 (k : Option Bx) : Bx := Option.rec (motive := fun _ => Bx) Kh (fun k => k) k
def thenB (x k : Bx) : Bx := ⟨fun ck t d S => Hp k.c ck (x.c ck t d S)⟩
def aX (x : Bx) (k : Option Bx) : Bx := Option.rec (motive := fun _ => Bx) x (fun k => thenB x k) k
def exitB (id : Nat) : Bx := ⟨fun _ t d S => .out (.exit id) ⟨t, d⟩ S⟩
def retB : Bx := ⟨fun _ t d S => .out .ret ⟨t, d⟩ S⟩
def tJ (a b : Bx) (v : AV) : Bx := SV.rec (motive := fun _ => Bx) (fun c => Bool.rec (motive := fun _ => Bx) b a c) (fun _ _ => J9) (fun _ => J9) J9 v.sv
def condB (g : GB) (a b : Bx) : Bx := ⟨fun ck t d S => Option.rec (motive := fun _ => O) .fail (fun v => (tJ a b v).c ck t d S) (g.g t)⟩
def blkX (id : Nat) (r : O) : O := O.rec (motive := fun _ => O) (fun e f S => Ex.rec (motive := fun _ => O) (.out .normal f S) (fun i => Bool.rec (motive := fun _ => O) (.out (.exit i) f S) (.out .normal f S) (Nat.beq i id)) (.out .ret f S) (fun a => .out (.pan a) f S) e) .fail r
def blockB (id : Nat) (x : Bx) : Bx := ⟨fun ck t d S => blkX id (x.c ck t d S)⟩
def yL (ih : T AV → List Dfr → St → O) (r : O) : O := O.rec (motive := fun _ => O) (fun e f S => Ex.rec (motive := fun _ => O) (ih f.tmps f.dfr S) (fun i => .out (.exit i) f S) (.out .ret f S) (fun a => .out (.pan a) f S) e) .fail r
def Wk (x : Bx) (ck : D7) (j : Nat) : T AV → List Dfr → St → O := Nat.rec (motive := fun _ => T AV → List Dfr → St → O) (fun _ _ _ => .fail) (fun _ ih t d S => yL ih (x.c ck t d S)) j
def kL : Nat := 5000
def rA (x : Bx) : Bx := ⟨fun ck t d S => Wk x ck kL t d S⟩
theorem loopB_c (x : Bx) (ck : D7) (t : T AV) (d : List Dfr) (S : St) : (rA x).c ck t d S = Wk x ck kL t d S := rfl
def Ip (E : Env) (n : Nat) (c : Code) : Option Bx → Bx := Code.rec (motive := fun _ => Option Bx → Bx)
 (fun k => O9 k)
 (fun _ ops dr k => Bool.rec (motive := fun _ => Bx) (xU E n ops ops.toList (O9 k)) (Qv E n ops (O9 k)) dr)
 (fun _ _ ia ib k => ia (some (ib k)))
 (fun x _ _ ia ib k => aX (condB (opG E.G x) (ia none) (ib none)) k)
 (fun id _ ia k => aX (blockB id (ia none)) k)
 (fun _ ia k => aX (rA (ia none)) k)
 (fun _ _ _ _ _ _ _ => J9)
 (fun id _ => exitB id)
 (fun _ _ _ => J9)
 (fun _ k => O9 k)
 (fun _ _ => J9)
 (fun _ => retB)
 (fun _ _ => J9) c
def Ry (k : Option Bx) (ck : D7) (r : O) : O := match k with
 | none => r
 | some k => Hp k.c ck r
theorem Zw (k : Option Bx) (ck : D7) : Ry k ck .fail = .fail := by cases k <;> rfl
theorem Ui (k : Option Bx) (ck : D7) (r : O) : Hp (O9 k).c ck r = Ry k ck r := by
 cases k with
 | none => exact Lc ck r
 | some k => rfl
theorem tailB_c (x : Bx) (k : Option Bx) (ck : D7) (t : T AV) (d : List Dfr) (S : St) : (aX x k).c ck t d S = Ry k ck (x.c ck t d S) := by cases k <;> rfl
def COk (E : Env) (n : Nat) (ck : D7) (c : Code) : Prop := ∀ (k : Option Bx) (t : T AV) (d : List Dfr) (S : St), (Ip E n c k).c ck t d S = .fail ∨ ∃ m, Ry k ck (G9 E (Cf E) ck m n c ⟨t, d⟩ S) = (Ip E n c k).c ck t d S
theorem eJ {E : Env} {n : Nat} {ck : D7} {c : Code} {x : Bx} (h : ∀ (t : T AV) (d : List Dfr) (S : St), x.c ck t d S = .fail ∨ ∃ m, G9 E (Cf E) ck m n c ⟨t, d⟩ S = x.c ck t d S) (k : Option Bx) (t : T AV) (d : List Dfr) (S : St) :
  (aX x k).c ck t d S = .fail ∨ ∃ m, Ry k ck (G9 E (Cf E) ck m n c ⟨t, d⟩ S) = (aX x k).c ck t d S := by
 rw [tailB_c]
 rcases h t d S with h | ⟨m, h⟩
 ·rw [h, Zw]; exact .inl rfl
 ·exact .inr ⟨m, by rw [h]⟩
theorem Nw {E : Env} {n : Nat} {ck : D7} (hck : CkF E ck) : ∀ c : Code, COk E n ck c
 | .skip => fun k t d S => .inr ⟨1, (Ui k ck _).symm⟩
 | .label l => fun k t d S => .inr ⟨1, (Ui k ck _).symm⟩
 | .region id ops false => fun k t d S => by
  have h := qO (E := E) (n := n) (ops := ops) hck (O9 k) ops.toList t d S
  rw [Ui] at h
  show (xU E n ops ops.toList (O9 k)).c ck t d S = .fail ∨ _
  rcases h with h | h
  ·exact .inl h
  ·exact .inr ⟨1, h.symm⟩
 | .region id ops true => fun k t d S => by
  have h := drawB_ok (E := E) (n := n) (ops := ops) hck (O9 k) t d S
  rw [Ui] at h
  show (Qv E n ops (O9 k)).c ck t d S = .fail ∨ _
  rcases h with h | h
  ·exact .inl h
  ·exact .inr ⟨1, h.symm⟩
 | .seq a b => fun k t d S => by
  have ha := Nw (n := n) hck a (some (Ip E n b k)) t d S
  show (Ip E n a (some (Ip E n b k))).c ck t d S = .fail ∨ ∃ m, _ = (Ip E n a (some (Ip E n b k))).c ck t d S
  rcases ha with ha | ⟨m1, ha⟩
  ·exact .inl ha
  ·rw [← ha]
   cases hr : G9 E (Cf E) ck m1 n a ⟨t, d⟩ S with
   | fail => exact .inl rfl
   | out e f' S' =>
    have hne : G9 E (Cf E) ck m1 n a ⟨t, d⟩ S ≠ .fail := by rw [hr]; exact fun e => by cases e
    cases e with
    | normal =>
     have hb := Nw (n := n) hck b k f'.tmps f'.dfr S'
     show (Ip E n b k).c ck f'.tmps f'.dfr S' = .fail ∨ ∃ m, _ = (Ip E n b k).c ck f'.tmps f'.dfr S'
     rcases hb with hb | ⟨m2, hb⟩
     ·exact .inl hb
     ·rw [← hb]
      by_cases hf : G9 E (Cf E) ck m2 n b ⟨f'.tmps, f'.dfr⟩ S' = .fail
      ·rw [hf, Zw]; exact .inl rfl
      ·refine .inr ⟨max m1 m2 + 1, ?_⟩
       have e1 : G9 E (Cf E) ck (max m1 m2 + 1) n (.seq a b) ⟨t, d⟩ S = G9 E (Cf E) ck m2 n b f' S' := by
        show Ee E (Cf E) (G9 E (Cf E) ck (max m1 m2)) ck n (.seq a b) ⟨t, d⟩ S = _
        simp only [Ee]
        rw [W8 (Nat.le_max_left m1 m2) hne, hr]
        exact W8 (Nat.le_max_right m1 m2) hf
       rw [e1]
    | exit i => refine .inr ⟨m1 + 1, ?_⟩; show Ry k ck (Ee E (Cf E) (G9 E (Cf E) ck m1) ck n (.seq a b) ⟨t, d⟩ S) = _; simp only [Ee, hr]; cases k <;> rfl
    | ret => refine .inr ⟨m1 + 1, ?_⟩; show Ry k ck (Ee E (Cf E) (G9 E (Cf E) ck m1) ck n (.seq a b) ⟨t, d⟩ S) = _; simp only [Ee, hr]; cases k <;> rfl
    | pan a => refine .inr ⟨m1 + 1, ?_⟩; show Ry k ck (Ee E (Cf E) (G9 E (Cf E) ck m1) ck n (.seq _ b) ⟨t, d⟩ S) = _; simp only [Ee, hr]; cases k <;> rfl
 | .cond x a b => eJ fun t d S => by
  have ha := Nw (n := n) hck a none t d S
  have hb := Nw (n := n) hck b none t d S
  show Option.rec (motive := fun _ => O) .fail (fun v => (tJ (Ip E n a none) (Ip E n b none) v).c ck t d S) ((opG E.G x).g t) = .fail ∨ ∃ m, _ = Option.rec (motive := fun _ => O) .fail (fun v => (tJ (Ip E n a none) (Ip E n b none) v).c ck t d S) ((opG E.G x).g t)
  rw [Gk]
  cases hx : Bc E.G t x with
  | none => exact .inl rfl
  | some v =>
   show (tJ (Ip E n a none) (Ip E n b none) v).c ck t d S = .fail ∨ ∃ m, _ = (tJ (Ip E n a none) (Ip E n b none) v).c ck t d S
   unfold tJ
   cases hv : v.sv with
   | b c =>
    have hvv := sv_b hv
    subst hvv
    cases c with
    | true =>
     show (Ip E n a none).c ck t d S = .fail ∨ ∃ m, _ = (Ip E n a none).c ck t d S
     rcases ha with ha | ⟨m, ha⟩
     ·exact .inl ha
     ·refine .inr ⟨m + 1, ?_⟩
      rw [← ha]
      show Ee E (Cf E) (G9 E (Cf E) ck m) ck n (.cond x a b) ⟨t, d⟩ S = _
      simp only [Ee, hx]; rfl
    | false =>
     show (Ip E n b none).c ck t d S = .fail ∨ ∃ m, _ = (Ip E n b none).c ck t d S
     rcases hb with hb | ⟨m, hb⟩
     ·exact .inl hb
     ·refine .inr ⟨m + 1, ?_⟩
      rw [← hb]
      show Ee E (Cf E) (G9 E (Cf E) ck m) ck n (.cond x a b) ⟨t, d⟩ S = _
      simp only [Ee, hx]; rfl
   | i => exact .inl rfl
   | s => exact .inl rfl
   | no => exact .inl rfl
 | .block id a => eJ fun t d S => by
  have ha := Nw (n := n) hck a none t d S
  show blkX id ((Ip E n a none).c ck t d S) = .fail ∨ ∃ m, _ = blkX id ((Ip E n a none).c ck t d S)
  rcases ha with ha | ⟨m, ha⟩
  ·rw [ha]; exact .inl rfl
  ·rw [← ha]
   refine .inr ⟨m + 1, ?_⟩
   show Ee E (Cf E) (G9 E (Cf E) ck m) ck n (.block id a) ⟨t, d⟩ S = blkX id (G9 E (Cf E) ck m n a ⟨t, d⟩ S)
   simp only [Ee]
   cases G9 E (Cf E) ck m n a ⟨t, d⟩ S with
   | fail => rfl
   | out e f' S' =>
    cases e with
    | exit i =>
     show (if i = id then O.out .normal f' S' else .out (.exit i) f' S') = Bool.rec (motive := fun _ => O) (.out (.exit i) f' S') (.out .normal f' S') (Nat.beq i id)
     rw [Ut]
     by_cases h : i = id
     ·rw [if_pos h, decide_eq_true h]
     ·rw [if_neg h, decide_eq_false h]
    | _ => rfl
 | .loop a => eJ fun t d S => by
  have key : ∀ (j : Nat) (t : T AV) (d : List Dfr) (S : St), Wk (Ip E n a none) ck j t d S = .fail ∨ ∃ m, G9 E (Cf E) ck m n (.loop a) ⟨t, d⟩ S = Wk (Ip E n a none) ck j t d S := by
   intro j
   induction j with
   | zero => exact fun t d S => .inl rfl
   | succ j ih =>
    intro t d S
    have ha := Nw (n := n) hck a none t d S
    show yL (Wk (Ip E n a none) ck j) ((Ip E n a none).c ck t d S) = .fail ∨ ∃ m, _ = yL (Wk (Ip E n a none) ck j) ((Ip E n a none).c ck t d S)
    rcases ha with ha | ⟨m1, ha⟩
    ·rw [ha]; exact .inl rfl
    ·rw [← ha]
     have ha2 : Ry none ck (G9 E (Cf E) ck m1 n a ⟨t, d⟩ S) = G9 E (Cf E) ck m1 n a ⟨t, d⟩ S := rfl
     rw [ha2]
     cases hr : G9 E (Cf E) ck m1 n a ⟨t, d⟩ S with
     | fail => exact .inl rfl
     | out e f' S' =>
      have hne : G9 E (Cf E) ck m1 n a ⟨t, d⟩ S ≠ .fail := by rw [hr]; exact fun e => by cases e
      cases e with
      | normal =>
       show Wk (Ip E n a none) ck j f'.tmps f'.dfr S' = .fail ∨ ∃ m, _ = Wk (Ip E n a none) ck j f'.tmps f'.dfr S'
       rcases ih f'.tmps f'.dfr S' with h | ⟨m2, h⟩
       ·exact .inl h
       ·rw [← h]
        by_cases hf : G9 E (Cf E) ck m2 n (.loop a) ⟨f'.tmps, f'.dfr⟩ S' = .fail
        ·rw [hf]; exact .inl rfl
        ·refine .inr ⟨max m1 m2 + 1, ?_⟩
         show Ee E (Cf E) (G9 E (Cf E) ck (max m1 m2)) ck n (.loop a) ⟨t, d⟩ S = _
         simp only [Ee]
         rw [W8 (Nat.le_max_left m1 m2) hne, hr]
         exact W8 (Nat.le_max_right m1 m2) hf
      | exit i => refine .inr ⟨m1 + 1, ?_⟩; show Ee E (Cf E) (G9 E (Cf E) ck m1) ck n (.loop a) ⟨t, d⟩ S = _; simp only [Ee, hr]; rfl
      | ret => refine .inr ⟨m1 + 1, ?_⟩; show Ee E (Cf E) (G9 E (Cf E) ck m1) ck n (.loop a) ⟨t, d⟩ S = _; simp only [Ee, hr]; rfl
      | pan b => refine .inr ⟨m1 + 1, ?_⟩; show Ee E (Cf E) (G9 E (Cf E) ck m1) ck n (.loop a) ⟨t, d⟩ S = _; simp only [Ee, hr]; rfl
  show (rA (Ip E n a none)).c ck t d S = .fail ∨ ∃ m, _ = (rA (Ip E n a none)).c ck t d S
  rw [loopB_c]
  exact key _ t d S
 | .exit id => fun k t d S => .inr ⟨1, by cases k <;> rfl⟩
 | .ret => fun k t d S => .inr ⟨1, by cases k <;> rfl⟩
 | .rangeFunc .. => fun k t d S => .inl rfl
 | .scope _ => fun k t d S => .inl rfl
 | .goto _ => fun k t d S => .inl rfl
 | .refuse _ => fun k t d S => .inl rfl
theorem nH {E : Env} {t : TypeId} {g : GB} {f : T AV} {S : St} {a : AV} (h : (cE E.P t g).v f S = some a) : ∃ b, g.g f = some b ∧ Cv E.P S t b = some a := by
 unfold cE at h
 split at h
 ·rename_i ht
  obtain ⟨b, h1, h2⟩ := Fq h
  exact ⟨b, h1, zB ht h2⟩
 ·rename_i ht
  split at h
  ·rename_i n hs
   obtain ⟨b, h1, h2⟩ := Fq h
   exact ⟨b, h1, yW ht hs h2⟩
  ·cases h
 ·cases h
def W2 (P : Program) (r : ResultVar) : VB := match r with
 | .tmp t => qS (gA t)
 | .cell x t => cE P t (gA x)
def tO (l : List VB) (f : T AV) (S : St) : Option (List AV) := List.rec (motive := fun _ => Option (List AV)) (some []) (fun v _ ih => Option.rec (motive := fun _ => Option (List AV)) none (fun a => Nh a ih) (v.v f S)) l
theorem qJ {E : Env} {f : T AV} {S : St} : ∀ {rs : List ResultVar} {l : List AV}, tO (rs.map (W2 E.P)) f S = some l → Bg E f S rs = some l
 | [], l, h => h
 | r :: rs, l, h => by
  have h : Option.rec (motive := fun _ => Option (List AV)) none (fun a => Nh a (tO (rs.map (W2 E.P)) f S)) ((W2 E.P r).v f S) = some l := h
  cases hv : (W2 E.P r).v f S with
  | none => rw [hv] at h; cases h
  | some a =>
   rw [hv] at h
   have h : Nh a (tO (rs.map (W2 E.P)) f S) = some l := h
   cases hq : tO (rs.map (W2 E.P)) f S with
   | none => rw [hq] at h; cases h
   | some q =>
    rw [hq] at h
    have h : some (a :: q) = some l := h
    injection h with h; subst h
    have ih := qJ (E := E) hq
    cases r with
    | tmp t =>
     have hv : (gA t).g f = some a := hv
     rw [T7] at hv
     simp only [Bg, hv, ih]
    | cell x t =>
     obtain ⟨b, h1, h2⟩ := nH (E := E) hv
     rw [T7] at h1
     simp only [Bg, h1, h2, ih]
def kI (l : List VB) (f : T AV) (S : St) : R := Option.rec (motive := fun _ => R) .fail (fun l => .ret (Cd l) S) (tO l f S)
def oM (l : List VB) (r : O) : R := O.rec (motive := fun _ => R) (fun e f S => List.rec (motive := fun _ => R) (Ex.rec (motive := fun _ => R) (kI l f.tmps S) (fun _ => .fail) (kI l f.tmps S) (fun a => .pan a S) e) (fun _ _ _ => .fail) f.dfr) .fail r
def T4 (l : List AV) : Nat → T AV := List.rec (motive := fun _ => Nat → T AV) (fun _ => .leaf) (fun a _ ih k => (setS k).s (ih (Nat.succ k)) a) l
theorem kC : ∀ (l : List AV) (k : Nat), T4 l k = B6 l k
 | [], k => rfl
 | a :: r, k => by
  show (setS k).s (T4 r (k + 1)) a = _
  rw [qB, kC r (k + 1)]; rfl
def qE (E : Env) (ck : D7) (m : Nat) : Nat → Code → Fr → St → O :=
 Nat.rec (motive := fun _ => Nat → Code → Fr → St → O) (fun _ _ _ _ => .fail) (fun _ ih => X4 E (Rg E) ih ck) m
theorem iR (E : Env) (ck : D7) : ∀ m, qE E ck m = G9 E (Cf E) ck m
 | 0 => rfl
 | m + 1 => by
  have ih := iR E ck m
  show (fun n c f S => X4 E (Rg E) (qE E ck m) ck n c f S) = _
  rw [ih, gN]
  funext n c f S
  exact aZ ..
def defers (l : List Oper) : Bool := l.any fun o => match o.op with | .defer _ => true | _ => false
def Mz : Code → Bool
 | .region _ ops _ => defers ops.toList
 | .seq a b => Mz a || Mz b
 | .cond _ a b => Mz a || Mz b
 | .block _ a => Mz a
 | .loop a => Mz a
 | _ => false
def failF : FB := ⟨fun _ _ _ => .fail⟩
def slowF (E : Env) (k : FuncId) : FB := ⟨fun ck args S => Jl E (qE E ck kL) k args S⟩
def fastF (x : Bx) (n : Nat) (l : List VB) : FB := ⟨fun ck args S => Bool.rec (motive := fun _ => R) .fail (oM l (x.c ck (T4 args 0) [] S)) (Nat.ble (Vi args) n)⟩
def fnB (E : Env) (k : FuncId) : FB := match E.F k with
 | none => failF
 | some fn => match E.I k with
  | some g => ⟨fun _ args S => g args S⟩
  | none => match fn.body with
   | none => failF
   | some c => if Mz c then slowF E k else fastF (Ip E fn.ntmps c none) fn.ntmps (fn.results.toList.map (W2 E.P))
def Oz (E : Env) (m : Nat) : D7 := Nat.rec (motive := fun _ => D7) (fun _ _ _ => .fail) (fun _ ih k args S => (fnB E k).f ih args S) m
theorem endX_ok {E : Env} {fn : Func} {rec : Nat → Code → Fr → St → O} (r : O) : oM (fn.results.toList.map (W2 E.P)) r = .fail ∨ oM (fn.results.toList.map (W2 E.P)) r = Ue E rec fn r := by
 have give : ∀ (f : T AV) (S : St), kI (fn.results.toList.map (W2 E.P)) f S = .fail ∨ kI (fn.results.toList.map (W2 E.P)) f S = Km E fn f S := fun f S => by
  unfold kI
  cases hq : tO (fn.results.toList.map (W2 E.P)) f S with
  | none => exact .inl rfl
  | some l =>
   refine .inr ?_
   unfold Km
   rw [qJ hq]
 cases r with
 | fail => exact .inl rfl
 | out e f S =>
  obtain ⟨t, d⟩ := f
  cases d with
  | cons x y => exact .inl rfl
  | nil => cases e with
   | normal => exact give t S
   | exit i => exact .inl rfl
   | ret => exact give t S
   | pan a => exact .inr rfl
theorem zU {E : Env} {ck : D7} (hck : CkF E ck) (k : FuncId) (args : List AV) (S : St) : (fnB E k).f ck args S = .fail ∨ ((E.F k).isSome = true ∧ ∃ m, (fnB E k).f ck args S = Jl E (G9 E (Cf E) ck m) k args S) := by
 unfold fnB
 cases hF : E.F k with
 | none => exact .inl rfl
 | some fn =>
  simp only
  cases hI : E.I k with
  | some g => exact .inr ⟨rfl, 0, by simp only [Jl, hI]⟩
  | none =>
   simp only
   cases hb : fn.body with
   | none => exact .inl rfl
   | some c =>
    simp only
    split
    ·exact .inr ⟨rfl, kL, by show Jl E (qE E ck kL) k args S = _; rw [iR]⟩
    ·show (Bool.rec (motive := fun _ => R) .fail (oM _ ((Ip E fn.ntmps c none).c ck (T4 args 0) [] S)) (Nat.ble (Vi args) fn.ntmps) : R) = .fail ∨ _ ∧ ∃ m, (Bool.rec (motive := fun _ => R) .fail (oM _ ((Ip E fn.ntmps c none).c ck (T4 args 0) [] S)) (Nat.ble (Vi args) fn.ntmps) : R) = _
     cases hl : Nat.ble (Vi args) fn.ntmps with
     | false => exact .inl rfl
     | true =>
      have hle : args.length ≤ fn.ntmps := by rw [← Mf]; exact Nat.le_of_ble_eq_true hl
      show oM _ ((Ip E fn.ntmps c none).c ck (T4 args 0) [] S) = .fail ∨ _ ∧ ∃ m, oM _ ((Ip E fn.ntmps c none).c ck (T4 args 0) [] S) = _
      rcases Nw hck c none (T4 args 0) [] S with h | ⟨m, h⟩
      ·rw [h]; exact .inl rfl
      ·rw [← h]
       rcases endX_ok (E := E) (fn := fn) (rec := G9 E (Cf E) ck m) (Ry none ck (G9 E (Cf E) ck m fn.ntmps c ⟨T4 args 0, []⟩ S)) with h2 | h2
       ·exact .inl h2
       ·refine .inr ⟨rfl, m, h2.trans ?_⟩
        simp only [Jl, hI, hF, hb, if_pos hle, kC]
        rfl
theorem gT {E : Env} : ∀ m, CkF E (Oz E m)
 | 0 => fun k args S h => absurd rfl h
 | m + 1 => fun k args S h => by
  rcases zU (gT m) k args S with h2 | ⟨h2, _⟩
  ·exact absurd h2 h
  ·exact h2
theorem Un {E : Env} (hE : E.Ok) (hI : Jd E) (hmix : E.P.follows .mixedOrders = true) : ∀ m base w0, Jp E base w0 (Oz E m)
 | 0, base, w0 => fun k args S h => absurd rfl h
 | m + 1, base, w0 => by
  intro k args S hne γ w vs hS hg hv hF
  rcases zU (gT m) k args S with h2 | ⟨_, j, h2⟩
  ·exact absurd h2 hne
  ·have e : Oz E (m + 1) k args S = Jl E (G9 E (Cf E) (Oz E m) j) k args S := h2
   rw [e] at hne ⊢
   exact Np hE hI (Sa hE (Ii hE hmix) (Un hE hI hmix m) j) base w0 k args S hne γ w vs hS hg hv hF
end Go.Ax
noncomputable section
namespace Go.Ax
open Go.RowKit
section
variable {E : Env}
theorem lG (hE : E.Ok) (hI : Jd E) (hmix : E.P.follows .mixedOrders = true) (hG : E.G = fun _ => none) {m : Nat} {k : FuncId} {args : List AV} (h : Xj (Oz E m k args St0) = true) (hF : (E.F k).isSome = true) {w : World} {vs : List Value} (hv : VRL Gh0 w args vs) :
  Calls E.P k vs.toArray w fun e w' => e = .returned (.bool true) ∧ Below w.heap.size w w' := by
 cases hr : Oz E m k args St0 with
 | fail => rw [hr] at h; cases h
 | pan a S => rw [hr] at h; cases h
 | ret a S =>
  rw [hr] at h
  have hne : Oz E m k args St0 ≠ .fail := by rw [hr]; exact fun e => by cases e
  have := Un hE hI hmix m w.heap.size w k args St0 hne Gh0 w vs (SR.start w) (by rw [hG]; exact GR.none) hv hF
  rw [hr] at this
  refine this.mono fun e w' he => ?_
  obtain ⟨γ', v, h1, h2, h3, rfl⟩ := he
  unfold Xj at h
  split at h
  ·rename_i b S' heq
   injection heq with e1 e2
   subst e1; subst h
   cases h3
   exact ⟨rfl, h1.below⟩
  ·cases h
end
end Go.Ax
