/- Xc -/
import Derived.Test.YtjgknelmjdallaaGreatDoorPrG10
set_option linter.unusedVariables false
set_option linter.unusedSimpArgs false
noncomputable section
namespace Go.Ax
open Go.RowKit
def Il (k:Ck) (ck:Ec) (r:O):O:=O.rec (motive:=fun _=>O) (fun e f S=>Ex.rec (motive:=fun _=>O) (k ck f.tmps f.dfr S) (fun i=>.out (.exit i) f S) (.out .ret f S) (fun a=>.out (.pan a) f S) e) .fail r
def Lm:Bx:=⟨fun _ _ _ _=>.fail⟩
def Lv:Bx:=⟨fun _ t d S=>.out .normal ⟨t,d⟩ S⟩
def idS:SB:=⟨fun t _=>t⟩
def dstS (n:Nat) (dst:Option Tmp):Option SB:=match dst with
 | none=>some idS
 | some d=>if d < n then some (setS d) else none
theorem Oe {n:Nat} {dst:Option Tmp} {s:SB} (h:dstS n dst=some s) (t:T AV) (d:List Dfr) (a:AV) (S:St):Ls n ⟨t,d⟩ dst a S=.out .normal ⟨s.s t a,d⟩ S:=by
 cases dst with
 | none=>injection h with h; subst h; rfl
 | some x =>
  simp only [dstS] at h
  split at h
  ·rename_i hx
   injection h with h; subst h
   simp only [Ls,if_pos hx,wG]
  ·cases h
def Rf (x y:O):Prop:=x=.fail ∨ x=y
theorem Rf.refl (x:O):Rf x x:=.inr rfl
def CkF (E:Env) (ck:Ec):Prop:=∀ k args S,ck k args S ≠ .fail → (E.F k).isSome=true
def Rj (E:Env) (callK:Ec) (n:Nat) (o:Oper) (f:Fr) (S:St):O:=match Bd E f.tmps S o with
  | .val a S'=>Ls n f o.dst a S'
  | .skip S'=>Ls n f o.dst (.tup []) S'
  | .enter k args S'=>match callK k args S' with
   | .ret a S''=>Ls n f o.dst a S''
   | .pan a S''=>.out (.pan a) f S''
   | .fail=>.fail
  | .dfr fn caps args S'=>Ls n { f with dfr:=⟨fn,caps,args⟩ :: f.dfr } o.dst (.tup []) S'
  | .pan a S'=>.out (.pan a) f S'
  | .fail=>.fail
def retX (s:SB) (k:Bx) (ck:Ec) (t:T AV) (d:List Dfr) (r:R):O:=R.rec (motive:=fun _=>O) (fun a S=>k.c ck (s.s t a) d S) (fun a S=>.out (.pan a) ⟨t,d⟩ S) .fail r
def yieldX (s:SB) (k:Bx) (ck:Ec) (t:T AV) (d:List Dfr) (r:OR):O:=OR.rec (motive:=fun _=>O) (fun a S=>k.c ck (s.s t a) d S) (fun S=>k.c ck (s.s t (.tup [])) d S) (fun f args S=>retX s k ck t d (ck f args S)) (fun fn caps args S=>k.c ck (s.s t (.tup [])) (⟨fn,caps,args⟩ :: d) S) (fun a S=>.out (.pan a) ⟨t,d⟩ S) .fail r
def wB (E:Env) (o:Oper) (s:SB) (k:Bx):Bx:=⟨fun ck t d S=>yieldX s k ck t d (Si E t S o)⟩
def lookB (v:VB) (s:SB) (k:Bx):Bx:=⟨fun ck t d S=>Option.rec (motive:=fun _=>O) .fail (fun a=>k.c ck (s.s t a) d S) (v.v t S)⟩
def stC (S:St) (id off:Nat) (b:AV) (kk:St → O) (c:Option Cell):O:=Option.rec (motive:=fun _=>O) .fail (fun c=>Cell.rec (motive:=fun _=>O) (fun cs=>Option.rec (motive:=fun _=>O) .fail (fun r=>kk ⟨S.next,S.mem.set id (some (.box r))⟩) (Na off (Mu b) cs)) (fun _=>.fail) (fun _=>.fail) c) c
def st1 (sz:Nat) (S:St) (b:AV) (kk:St → O) (a:AV):O:=PV.rec (motive:=fun _=>O) (fun id off=>Bool.rec (motive:=fun _=>O) .fail (stC S id off b kk (S.mem.get id)) (Nu b sz)) (fun _=>.fail) .fail (fun _ _ _ _=>.fail) (fun _=>.fail) (fun _=>.fail) .fail (fun _ _ _ _=>.fail) a.pv
def storeB (sz:Nat) (gx gy:GB) (s:SB) (k:Bx):Bx:=⟨fun ck t d S=>Option.rec (motive:=fun _=>O) .fail (fun a=>Option.rec (motive:=fun _=>O) .fail (fun b=>st1 sz S b (fun S'=>k.c ck (s.s t (.tup [])) d S') a) (gy.g t)) (gx.g t)⟩
def jI (l:List GB) (t:T AV):Option (List AV):=List.rec (motive:=fun _=>Option (List AV)) (some []) (fun g _ ih=>Option.rec (motive:=fun _=>Option (List AV)) none (fun a=>O2 a ih) (g.g t)) l
def callFB (f:FuncId) (args:List GB) (s:SB) (k:Bx):Bx:=⟨fun ck t d S=>Option.rec (motive:=fun _=>O) .fail (fun l=>retX s k ck t d (ck f l S)) (jI args t)⟩
def dG (s:SB) (k:Bx) (ck:Ec) (t:T AV) (d:List Dfr) (S:St) (args:List AV) (a:AV):O:=match a with
 | .fn (.func f) first caps=>retX s k ck t d (ck f (first ++ args ++ caps) S)
 | _=>.fail
def callCB (g:GB) (args:List GB) (s:SB) (k:Bx):Bx:=⟨fun ck t d S=>Option.rec (motive:=fun _=>O) .fail (fun a=>Option.rec (motive:=fun _=>O) .fail (fun l=>dG s k ck t d S l a) (jI args t)) (g.g t)⟩
def allocB (z:List AV) (s:SB) (k:Bx):Bx:=⟨fun ck t d S=>k.c ck (s.s t (.ptr S.next 0)) d ⟨Nat.succ S.next,S.mem.set S.next (some (.box z))⟩⟩
def boxB (g:GB) (s:SB) (k:Bx):Bx:=⟨fun ck t d S=>Option.rec (motive:=fun _=>O) .fail (fun a=>Bool.rec (motive:=fun _=>O) .fail (k.c ck (s.s t (.ptr S.next 0)) d ⟨Nat.succ S.next,S.mem.set S.next (some (.box (Mu a)))⟩) (bR a)) (g.g t)⟩
def zeroOf (P:Program) (e:TypeId):Option (List AV):=match P.info? e with
 | some i=>match i.zero with
  | some z=>match Be 8 z with
   | some a=>if a.noTup then some a.cells else none
   | none=>none
  | none=>none
 | none=>none
def dA (E:Env) (o:Oper) (s:SB) (k:Bx):Bx:=if Gx o then lookB (mW E o) s k else match o.op with
 | .store t x y=>match Fq E.P t with
  | some n=>storeB n (opG E.G x) (opG E.G y) s k
  | none=>Lm
 | .alloc e=>match zeroOf E.P e with
  | some z=>allocB z s k
  | none=>Lm
 | .box _ x=>boxB (opG E.G x) s k
 | .call c=>match c.callee with
  | .value (.func f)=>callFB f (c.args.toList.map (opG E.G)) s k
  | .value x=>callCB (opG E.G x) (c.args.toList.map (opG E.G)) s k
  | _=>wB E o s k
 | _=>wB E o s k
theorem dM (G:Gl) (t:T AV):∀ xs:List Operand,jI (xs.map (opG G)) t=Bz (Bc G t) xs
 | []=>rfl
 | x :: r=>by
  have ih:=dM G t r
  show Option.rec (motive:=fun _=>Option (List AV)) none (fun a=>O2 a (jI (r.map (opG G)) t)) ((opG G x).g t)=_
  rw [ih,G5]
  simp only [Bz]
  cases Bc G t x <;> cases Bz (Bc G t) r <;> rfl
section
variable {E:Env} {n:Nat} {o:Oper} {s:SB} {k:Bx} {ck:Ec} {t:T AV} {d:List Dfr} {S:St}
theorem wO (hs:dstS n o.dst=some s) (r:R):retX s k ck t d r=Il k.c ck (match r with
   | .ret a S''=>Ls n ⟨t,d⟩ o.dst a S''
   | .pan a S''=>.out (.pan a) ⟨t,d⟩ S''
   | .fail=>.fail):=by
 cases r with
 | ret a S'=>simp only [Oe hs]; rfl
 | pan a S'=>rfl
 | fail=>rfl
theorem slowC_ok (hs:dstS n o.dst=some s):(wB E o s k).c ck t d S=Il k.c ck (Rj E ck n o ⟨t,d⟩ S):=by
 show yieldX s k ck t d (Si E t S o)=_
 rw [Qh]
 unfold Rj
 cases Bd E t S o with
 | val a S'=>simp only [Oe hs]; rfl
 | skip S'=>simp only [Oe hs]; rfl
 | enter f args S'=>exact wO hs _
 | dfr fn caps args S'=>simp only [Oe hs]; rfl
 | pan a S'=>rfl
 | fail=>rfl
theorem st1_ok {P:Program} {sz:Nat} {ty:TypeId} {a b:AV} {kk:St → O} (hz:Fq P ty=some sz):st1 sz S b kk a=.fail ∨ ∃ S',C9 P S ty a b=some S' ∧ st1 sz S b kk a=kk S':=by
 unfold st1
 cases hp:a.pv with
 | p id off =>
  rw [pv_p hp]
  show Bool.rec (motive:=fun _=>O) .fail (stC S id off b kk (S.mem.get id)) (Nu b sz)=.fail ∨ ∃ S',_ ∧ Bool.rec (motive:=fun _=>O) .fail (stC S id off b kk (S.mem.get id)) (Nu b sz)=kk S'
  cases hk:Nu b sz with
  | false=>exact .inl rfl
  | true =>
   obtain ⟨k1,k2⟩:=R8 hk
   show stC S id off b kk (S.mem.get id)=.fail ∨ ∃ S',_ ∧ stC S id off b kk (S.mem.get id)=kk S'
   cases hm:S.mem.get id with
   | none=>exact .inl rfl
   | some c =>
    cases c with
    | box cs =>
     show Option.rec (motive:=fun _=>O) .fail (fun r=>kk ⟨S.next,S.mem.set id (some (.box r))⟩) (Na off (Mu b) cs)=.fail ∨ ∃ S',_ ∧ Option.rec (motive:=fun _=>O) .fail (fun r=>kk ⟨S.next,S.mem.set id (some (.box r))⟩) (Na off (Mu b) cs)=kk S'
     cases ho:Na off (Mu b) cs with
     | none=>exact .inl rfl
     | some r =>
      obtain ⟨k3,k4⟩:=Qw _ _ _ _ ho
      rw [Qj] at k3 k4
      refine .inr ⟨⟨S.next,S.mem.set id (some (.box r))⟩,?_,rfl⟩
      simp only [C9,hm,hz,k1,k2,beq_self_eq_true,Bool.true_and]
      rw [if_pos (by rw [k2] at k3; simpa using k3),k4,k2]
    | tip m=>exact .inl rfl
    | mp es=>exact .inl rfl
 | e=>exact .inl rfl
 | n=>exact .inl rfl
 | l=>exact .inl rfl
 | a=>exact .inl rfl
 | t=>exact .inl rfl
 | no=>exact .inl rfl
 | w=>exact .inl rfl
theorem coreB_ok (hck:CkF E ck) (hs:dstS n o.dst=some s):Rf ((dA E o s k).c ck t d S) (Il k.c ck (Rj E ck n o ⟨t,d⟩ S)):=by
 have slow:Rf ((wB E o s k).c ck t d S) (Il k.c ck (Rj E ck n o ⟨t,d⟩ S)):=.inr (slowC_ok hs)
 unfold dA
 split
 ·rename_i hl
  show Rf (Option.rec (motive:=fun _=>O) .fail (fun a=>k.c ck (s.s t a) d S) ((mW E o).v t S)) _
  cases hv:(mW E o).v t S with
  | none=>exact .inl rfl
  | some a =>
   have:=vT hl t S a hv
   refine .inr ?_
   simp only [Rj,this,Oe hs]; rfl
 ·split
  ·rename_i ty x y ho
   split
   ·rename_i sz hz
    show Rf (Option.rec (motive:=fun _=>O) .fail (fun a=>Option.rec (motive:=fun _=>O) .fail (fun b=>st1 sz S b (fun S'=>k.c ck (s.s t (.tup [])) d S') a) ((opG E.G y).g t)) ((opG E.G x).g t)) _
    rw [G5,G5]
    cases hx:Bc E.G t x with
    | none=>exact .inl rfl
    | some a =>
     cases hy:Bc E.G t y with
     | none=>exact .inl rfl
     | some b =>
      show Rf (st1 sz S b (fun S'=>k.c ck (s.s t (.tup [])) d S') a) _
      rcases st1_ok (S:=S) (a:=a) (b:=b) (kk:=fun S'=>k.c ck (s.s t (.tup [])) d S') hz with h | ⟨S',h1,h2⟩
      ·exact .inl h
      ·refine .inr (h2.trans ?_)
       simp only [Rj,Bd,ho,hx,hy,h1,Oe hs]; rfl
   ·exact .inl rfl
  ·rename_i e ho
   split
   ·rename_i z hz
    refine .inr ?_
    unfold zeroOf at hz
    split at hz
    ·rename_i i hi
     split at hz
     ·rename_i z0 hz0
      split at hz
      ·rename_i a ha
       split at hz
       ·rename_i hn
        injection hz with hz; subst hz
        simp only [Rj,Bd,ho,Jv,hi,hz0,ha,if_pos hn,ofOptS,Oe hs]; rfl
       ·cases hz
      ·cases hz
     ·cases hz
    ·cases hz
   ·exact .inl rfl
  ·rename_i e x ho
   show Rf (Option.rec (motive:=fun _=>O) .fail (fun a=>Bool.rec (motive:=fun _=>O) .fail (k.c ck (s.s t (.ptr S.next 0)) d ⟨Nat.succ S.next,S.mem.set S.next (some (.box (Mu a)))⟩) (bR a)) ((opG E.G x).g t)) _
   rw [G5]
   cases hx:Bc E.G t x with
   | none=>exact .inl rfl
   | some a =>
    show Rf (Bool.rec (motive:=fun _=>O) .fail (k.c ck (s.s t (.ptr S.next 0)) d ⟨Nat.succ S.next,S.mem.set S.next (some (.box (Mu a)))⟩) (bR a)) _
    rw [gM,Qj]
    cases hn:a.noTup with
    | false=>exact .inl rfl
    | true =>
     refine .inr ?_
     simp only [Rj,Bd,ho,hx,if_pos hn,Oe hs]; rfl
  ·rename_i c ho
   have fnc:∀ (g:AV) (l:List AV),(∃ x,c.callee=.value x ∧ Bc E.G t x=some g) → Bz (Bc E.G t) c.args.toList=some l → Rf (dG s k ck t d S l g) (Il k.c ck (Rj E ck n o ⟨t,d⟩ S)):=by
    rintro g l ⟨x,hc,hx⟩ hl
    unfold dG
    split
    ·rename_i f first caps
     cases hF:E.F f with
     | none =>
      have:ck f (first ++ l ++ caps) S=.fail:=by
       cases hr:ck f (first ++ l ++ caps) S with
       | fail=>rfl
       | ret a S'=>have:=hck f (first ++ l ++ caps) S (by rw [hr]; exact fun e=>by cases e); rw [hF] at this; cases this
       | pan a S'=>have:=hck f (first ++ l ++ caps) S (by rw [hr]; exact fun e=>by cases e); rw [hF] at this; cases this
      rw [this]; exact .inl rfl
     | some fn =>
      refine .inr ?_
      rw [wO hs]
      simp only [Rj,Bd,ho,Bm,hc,hx,hl,hF]
    ·exact .inl rfl
   split
   ·rename_i f hc
    show Rf (Option.rec (motive:=fun _=>O) .fail (fun l=>retX s k ck t d (ck f l S)) (jI (c.args.toList.map (opG E.G)) t)) _
    rw [dM]
    cases hl:Bz (Bc E.G t) c.args.toList with
    | none=>exact .inl rfl
    | some l =>
     have:=fnc (.fn (.func f) [] []) l ⟨_,hc,rfl⟩ hl
     simpa [dG] using this
   ·rename_i x hc hne
    show Rf (Option.rec (motive:=fun _=>O) .fail (fun a=>Option.rec (motive:=fun _=>O) .fail (fun l=>dG s k ck t d S l a) (jI (c.args.toList.map (opG E.G)) t)) ((opG E.G x).g t)) _
    rw [dM,G5]
    cases hx:Bc E.G t x with
    | none=>exact .inl rfl
    | some g =>
     cases hl:Bz (Bc E.G t) c.args.toList with
     | none=>exact .inl rfl
     | some l=>exact fnc g l ⟨x,hne,hx⟩ hl
   ·exact slow
  ·exact slow
def aP (s:SB) (k:Bx):Bx:=⟨fun ck t d S=>k.c ck (s.s t (.tup [])) d S⟩
def Mc (a:AV):Bool:=PV.rec (motive:=fun _=>Bool) (fun _ _=>false) (fun _=>false) false (fun _ _ _ _=>false) (fun _=>false) (fun _=>true) false (fun _ _ _ _=>false) a.pv
def sameB (x y:Bool):Bool:=Bool.rec (motive:=fun _=>Bool) (notR y) y x
def lK (want:Bool) (x y:Bx) (a:AV):Bx:=SV.rec (motive:=fun _=>Bx) (fun b=>Bool.rec (motive:=fun _=>Bx) y x (sameB b want)) (fun _ _=>Lm) (fun _=>Lm) (Bool.rec (motive:=fun _=>Bx) Lm y (Mc a)) a.sv
def guardB (g:GB) (want:Bool) (x y:Bx):Bx:=⟨fun ck t d S=>Option.rec (motive:=fun _=>O) .fail (fun a=>(lK want x y a).c ck t d S) (g.g t)⟩
def opB (E:Env) (n:Nat) (ops:Array Oper) (o:Oper) (k:Bx):Bx:=match dstS n o.dst with
 | none=>Lm
 | some s=>match o.guard with
  | none=>dA E o s k
  | some (j,want)=>match (ops[j]?).bind (·.dst) with
   | none=>aP s k
   | some d=>guardB (lO d) want (dA E o s k) (aP s k)
theorem opB_ok {ops:Array Oper} (hck:CkF E ck):Rf ((opB E n ops o k).c ck t d S) (Il k.c ck (Fa E ck n ops o ⟨t,d⟩ S)):=by
 unfold opB
 split
 ·exact .inl rfl
 ·rename_i s hs
  have skip:(aP s k).c ck t d S=Il k.c ck (Ls n ⟨t,d⟩ o.dst (.tup []) S):=by rw [Oe hs]; rfl
  have core:=coreB_ok (E:=E) (n:=n) (o:=o) (k:=k) (t:=t) (d:=d) (S:=S) hck hs
  split
  ·rename_i hg
   have:Fa E ck n ops o ⟨t,d⟩ S=Rj E ck n o ⟨t,d⟩ S:=by unfold Fa A4; rw [hg]; rfl
   rw [this]; exact core
  ·rename_i j want hg
   split
   ·rename_i hj
    have:Fa E ck n ops o ⟨t,d⟩ S=Ls n ⟨t,d⟩ o.dst (.tup []) S:=by unfold Fa A4; rw [hg]; simp only [hj]
    rw [this]; exact .inr skip
   ·rename_i d0 hj
    show Rf (Option.rec (motive:=fun _=>O) .fail (fun a=>(lK want (dA E o s k) (aP s k) a).c ck t d S) ((lO d0).g t)) _
    rw [V4]
    cases hx:t.get d0 with
    | none=>exact .inl rfl
    | some a =>
     show Rf ((lK want (dA E o s k) (aP s k) a).c ck t d S) _
     unfold lK
     cases hv:a.sv with
     | b b =>
      have ha:=sv_b hv
      subst ha
      have hw:A4 ops o t=some (b == want):=by unfold A4; rw [hg]; simp only [hj,hx]
      show Rf ((Bool.rec (motive:=fun _=>Bx) (aP s k) (dA E o s k) (sameB b want)).c ck t d S) _
      have hb:sameB b want=(b == want):=by cases b <;> cases want <;> rfl
      rw [hb]
      cases hbw:(b == want) with
      | false =>
       have:Fa E ck n ops o ⟨t,d⟩ S=Ls n ⟨t,d⟩ o.dst (.tup []) S:=by unfold Fa; simp only [hw,hbw]
       rw [this]; exact .inr skip
      | true =>
       have:Fa E ck n ops o ⟨t,d⟩ S=Rj E ck n o ⟨t,d⟩ S:=by unfold Fa; simp only [hw,hbw]; rfl
       rw [this]; exact core
     | i=>exact .inl rfl
     | s=>exact .inl rfl
     | no =>
      show Rf ((Bool.rec (motive:=fun _=>Bx) Lm (aP s k) (Mc a)).c ck t d S) _
      cases hp:a.pv with
      | t vs =>
       have:Mc a=true:=by unfold Mc; rw [hp]
       rw [this]
       have ha:=pv_t hp
       subst ha
       have hw:A4 ops o t=some false:=by unfold A4; rw [hg]; simp only [hj,hx]
       have:Fa E ck n ops o ⟨t,d⟩ S=Ls n ⟨t,d⟩ o.dst (.tup []) S:=by unfold Fa; simp only [hw]
       rw [this]; exact .inr skip
      | p =>
       have:Mc a=false:=by unfold Mc; rw [hp]
       rw [this]; exact .inl rfl
      | e =>
       have:Mc a=false:=by unfold Mc; rw [hp]
       rw [this]; exact .inl rfl
      | n =>
       have:Mc a=false:=by unfold Mc; rw [hp]
       rw [this]; exact .inl rfl
      | l =>
       have:Mc a=false:=by unfold Mc; rw [hp]
       rw [this]; exact .inl rfl
      | a =>
       have:Mc a=false:=by unfold Mc; rw [hp]
       rw [this]; exact .inl rfl
      | no =>
       have:Mc a=false:=by unfold Mc; rw [hp]
       rw [this]; exact .inl rfl
      | w =>
       have:Mc a=false:=by unfold Mc; rw [hp]
       rw [this]; exact .inl rfl
def opsB (E:Env) (n:Nat) (ops:Array Oper) (l:List Oper):Bx → Bx:=List.rec (motive:=fun _=>Bx → Bx) (fun k=>k) (fun o _ ih k=>opB E n ops o (ih k)) l
end
theorem wU {E:Env} {n:Nat} {ops:Array Oper} {ck:Ec} (hck:CkF E ck) (k:Bx):∀ (l:List Oper) (t:T AV) (d:List Dfr) (S:St),Rf ((opsB E n ops l k).c ck t d S) (Il k.c ck (aS E ck n ops l ⟨t,d⟩ S))
 | [],t,d,S=>.inr rfl
 | o :: r,t,d,S=>by
  have h:=opB_ok (E:=E) (n:=n) (o:=o) (ops:=ops) (k:=opsB E n ops r k) (t:=t) (d:=d) (S:=S) hck
  show Rf ((opB E n ops o (opsB E n ops r k)).c ck t d S) _
  rcases h with h | h
  ·exact .inl h
  ·rw [h]
   unfold aS
   cases Fa E ck n ops o ⟨t,d⟩ S with
   | fail=>exact .inl rfl
   | out e f' S' =>
    cases e with
    | normal=>exact wU hck k r f'.tmps f'.dfr S'
    | exit i=>exact .inr rfl
    | ret=>exact .inr rfl
    | pan a=>exact .inr rfl
def re1 (k:Bx) (ck:Ec) (t:T AV) (d:List Dfr) (S:St) (b a:Option AV):O:=Option.rec (motive:=fun _=>O) .fail (fun b=>Option.rec (motive:=fun _=>O) .fail (fun a=>Bool.rec (motive:=fun _=>O) .fail (k.c ck t d S) (Hi b a)) a) b
def reB (E:Env) (ops:Array Oper) (o:Oper) (k:Bx):Bx:=match o.guard,o.dst,Gx o with
 | none,some d0,true=>⟨fun ck t d S=>re1 k ck t d S ((lO d0).g t) ((mW E o).v t S)⟩
 | _,_,_=>⟨fun ck t d S=>Bool.rec (motive:=fun _=>O) .fail (k.c ck t d S) (Dy E ops o t S)⟩
theorem reB_ok {E:Env} {ops:Array Oper} {o:Oper} {k:Bx} {ck:Ec} {t:T AV} {d:List Dfr} {S:St}:Rf ((reB E ops o k).c ck t d S) (if Dy E ops o t S then k.c ck t d S else .fail):=by
 have slow:Rf (Bool.rec (motive:=fun _=>O) .fail (k.c ck t d S) (Dy E ops o t S)) (if Dy E ops o t S then k.c ck t d S else .fail):=by
  cases Dy E ops o t S <;> exact .inr rfl
 unfold reB
 split
 ·rename_i d0 hg hd hl
  show Rf (re1 k ck t d S ((lO d0).g t) ((mW E o).v t S)) _
  rw [V4]
  cases hb:t.get d0 with
  | none=>exact .inl rfl
  | some b =>
   cases hv:(mW E o).v t S with
   | none=>exact .inl rfl
   | some a =>
    have h1:=vT hl t S a hv
    have h2:Ei E ops o t S=some a:=by unfold Ei A4; rw [hg]; simp only [h1]
    have h3:Dy E ops o t S=Hi b a:=by unfold Dy; rw [h2,hd]; simp only [hb]
    rw [h3]
    show Rf (Bool.rec (motive:=fun _=>O) .fail (k.c ck t d S) (Hi b a)) _
    cases Hi b a <;> exact .inr rfl
 ·exact slow
def rsB (E:Env) (n:Nat) (ops:Array Oper) (l:List RS):Bx → Bx:=List.rec (motive:=fun _=>Bx → Bx) (fun k=>k) (fun s _ ih k=>RS.rec (motive:=fun _=>Bx) (fun o=>opB E n ops o (ih k)) (fun o=>reB E ops o (ih k)) s) l
theorem Rz {E:Env} {n:Nat} {ops:Array Oper} {ck:Ec} (hck:CkF E ck) (k:Bx):∀ (l:List RS) (t:T AV) (d:List Dfr) (S:St),Rf ((rsB E n ops l k).c ck t d S) (Il k.c ck (Ef E ck n ops l ⟨t,d⟩ S))
 | [],t,d,S=>.inr rfl
 | .op o :: r,t,d,S=>by
  have h:=opB_ok (E:=E) (n:=n) (o:=o) (ops:=ops) (k:=rsB E n ops r k) (t:=t) (d:=d) (S:=S) hck
  show Rf ((opB E n ops o (rsB E n ops r k)).c ck t d S) _
  rcases h with h | h
  ·exact .inl h
  ·rw [h]
   have e:Ef E ck n ops (.op o :: r) ⟨t,d⟩ S=match Fa E ck n ops o ⟨t,d⟩ S with
    | .out .normal f' S'=>Ef E ck n ops r f' S'
    | r=>r:=rfl
   rw [e]
   cases Fa E ck n ops o ⟨t,d⟩ S with
   | fail=>exact .inl rfl
   | out e f' S' =>
    cases e with
    | normal=>exact Rz hck k r f'.tmps f'.dfr S'
    | exit i=>exact .inr rfl
    | ret=>exact .inr rfl
    | pan a=>exact .inr rfl
 | .re o :: r,t,d,S=>by
  have h:=reB_ok (E:=E) (o:=o) (ops:=ops) (k:=rsB E n ops r k) (ck:=ck) (t:=t) (d:=d) (S:=S)
  show Rf ((reB E ops o (rsB E n ops r k)).c ck t d S) _
  have e:Ef E ck n ops (.re o :: r) ⟨t,d⟩ S=if Dy E ops o t S then Ef E ck n ops r ⟨t,d⟩ S else .fail:=rfl
  rw [e]
  rcases h with h | h
  ·exact .inl h
  ·rw [h]
   cases Dy E ops o t S with
   | false=>exact .inl rfl
   | true=>exact Rz hck k r t d S
def drawS (E:Env) (n:Nat) (ops:Array Oper) (k:Bx):Bx:=⟨fun ck t d S=>Il k.c ck (Us E ck n ops ⟨t,d⟩ S)⟩
def Te (l:List RS):Bool:=l.all fun s=>match s with
 | .op o=>Gx o
 | .re _=>true
def fixB (E:Env) (n:Nat) (ops:Array Oper) (l:List RS) (k:Bx):Bx:=⟨fun ck t d S=>Il k.c ck (Kz ⟨F8 ops.toList t,d⟩ ((rsB E n ops l Lv).c ck t d S))⟩
def yW (E:Env) (n:Nat) (ops:Array Oper) (k:Bx):Bx :=
 let ms:=bm ops.toList []
 let order:=Md ops ms ops.size (List.range ops.size) 0
 if Pk ops ms order then (match Mf ops ms order [] with
  | some rs=>if Te rs then rsB E n ops rs k else fixB E n ops rs k
  | none=>drawS E n ops k) else drawS E n ops k
def drawF (E:Env) (n:Nat) (ops:Array Oper) (x:FlP) (k:Bx):Bx:=match Ql ops x with
 | some rs=>if x.d < n then ⟨fun ck t d S=>Il k.c ck (Kz ⟨F8 ops.toList t,d⟩ ((rsB E n ops rs Lv).c ck (T.set t x.d none) d S))⟩ else Lm
 | none=>Lm
def drawM (E:Env) (n:Nat) (ops:Array Oper) (x:MkX) (k:Bx):Bx:=match Vu ops x with
 | some rs=>if oY E.P n ops x=true then ⟨fun ck t d S=>Il k.c ck (Kz ⟨F8 ops.toList t,d⟩ ((rsB E n ops rs Lv).c ck (Kv E.P ops x.mks t) d S))⟩ else Lm
 | none=>Lm
def thenM2 (P:Program) (ops:Array Oper) (M:List Nat) (k:Ec → T AV → List Dfr → St → O) (ck:Ec) (r:O):O:=match r with
 | .out e f S=>match e with
  | .normal=>Bool.rec .fail (k ck f.tmps f.dfr S) (M.all (cI P ops f.tmps))
  | _=>.fail
 | .fail=>.fail
def uW (E:Env) (n:Nat) (ops:Array Oper) (x:MkX) (k:Bx):Bx:=match Vv ops x with
 | some (p,M,q)=>if lA E.P n ops x=true then ⟨fun ck t d S=>thenM2 E.P ops M (fun ck t2 d2 S2=>Il k.c ck (Kz ⟨F8 ops.toList t,d⟩ ((rsB E n ops q Lv).c ck t2 d2 S2))) ck ((rsB E n ops p Lv).c ck (Iz E.P ops x.mks t) d S)⟩ else Lm
 | none=>Lm
def Sm (E:Env) (n:Nat) (ops:Array Oper) (k:Bx):Bx:=match Oy E.P ops with
 | some x=>drawF E n ops x k
 | none=>match Q1 E.P ops with
  | some x=>drawM E n ops x k
  | none=>match Pd E.P ops with
   | some x=>uW E n ops x k
   | none=>yW E n ops k
theorem Mr (ck:Ec) (r:O):Il Lv.c ck r=r:=by
 cases r with
 | fail=>rfl
 | out e f S=>cases e <;> rfl
theorem Ry {E:Env} {ck:Ec} {n:Nat} {ops:Array Oper} {fb:Fr}:∀ (l:List RS) (f:Fr) (S:St),Te l=true → Kz fb (Ef E ck n ops l f S)=Ef E ck n ops l f S
 | [],f,S,h=>rfl
 | .op o :: r,f,S,h=>by
  unfold Te at h
  rw [List.all_cons,Bool.and_eq_true] at h
  have e:Ef E ck n ops (.op o :: r) f S=match Fa E ck n ops o f S with
    | .out .normal f' S'=>Ef E ck n ops r f' S'
    | r=>r:=rfl
  rw [e,Om,Mg h.1]
  cases Ei E ops o f.tmps S with
  | none=>rfl
  | some a =>
   simp only
   rw [Lr]
   cases okD n o.dst with
   | false=>rfl
   | true=>exact Ry r _ S h.2
 | .re o :: r,f,S,h=>by
  unfold Te at h
  rw [List.all_cons,Bool.and_eq_true] at h
  have e:Ef E ck n ops (.re o :: r) f S=if Dy E ops o f.tmps S then Ef E ck n ops r f S else .fail:=rfl
  rw [e]
  cases Dy E ops o f.tmps S with
  | false=>rfl
  | true=>exact Ry r f S h.2
theorem drawO_ok {E:Env} {n:Nat} {ops:Array Oper} {ck:Ec} (hck:CkF E ck) (k:Bx) (t:T AV) (d:List Dfr) (S:St):Rf ((yW E n ops k).c ck t d S) (Il k.c ck (Hp E ck n ops ⟨t,d⟩ S)):=by
 have slow:Rf ((drawS E n ops k).c ck t d S) (Il k.c ck (Hp E ck n ops ⟨t,d⟩ S)):=by
  refine .inr ?_
  show Il k.c ck (Us E ck n ops ⟨t,d⟩ S)=_
  rw [Xw]
 unfold yW
 simp only
 split
 ·rename_i hst
  split
  ·rename_i rs hrs
   have e:Ef E ck n ops rs ⟨t,d⟩ S=.fail ∨ Hp E ck n ops ⟨t,d⟩ S=Kz ⟨F8 ops.toList t,d⟩ (Ef E ck n ops rs ⟨t,d⟩ S):=by
    unfold Hp
    simp only
    rw [if_pos hst]
    exact Ka _ rs _ _ [] hrs (fun _ h=>absurd h List.not_mem_nil)
   split
   ·rename_i hlk
    have h:=Rz (E:=E) (n:=n) (ops:=ops) hck k rs t d S
    rcases h with h | h
    ·exact .inl h
    ·rw [h]
     rcases e with e | e
     ·rw [e]; exact .inl rfl
     ·rw [e,Ry rs _ _ hlk]; exact .inr rfl
   ·have h:=Rz (E:=E) (n:=n) (ops:=ops) hck Lv rs t d S
    rw [Mr] at h
    show Rf (Il k.c ck (Kz ⟨F8 ops.toList t,d⟩ ((rsB E n ops rs Lv).c ck t d S))) _
    rcases h with h | h
    ·rw [h]; exact .inl rfl
    ·rw [h]
     rcases e with e | e
     ·rw [e]; exact .inl rfl
     ·rw [e]; exact .inr rfl
  ·exact slow
 ·exact slow
theorem drawB_ok {E:Env} {n:Nat} {ops:Array Oper} {ck:Ec} (hck:CkF E ck) (k:Bx) (t:T AV) (d:List Dfr) (S:St):Rf ((Sm E n ops k).c ck t d S) (Il k.c ck (Cf E ck n ops ⟨t,d⟩ S)):=by
 cases hx:Oy E.P ops with
 | some x =>
  have e1:Sm E n ops k=drawF E n ops x k:=by unfold Sm; rw [hx]
  have e2:Cf E ck n ops ⟨t,d⟩ S=Ra E x ck n ops ⟨t,d⟩ S:=by unfold Cf; rw [hx]
  rw [e1,e2]
  unfold drawF Ra
  cases hrs:Ql ops x with
  | none=>exact .inl rfl
  | some rs =>
   simp only
   split
   ·have h:=Rz (E:=E) (n:=n) (ops:=ops) hck Lv rs (T.set t x.d none) d S
    rw [Mr] at h
    show Rf (Il k.c ck (Kz ⟨F8 ops.toList t,d⟩ ((rsB E n ops rs Lv).c ck (T.set t x.d none) d S))) _
    rcases h with h | h
    ·rw [h]; exact .inl rfl
    ·rw [h]; exact .inr rfl
   ·exact .inl rfl
 | none =>
  cases hy:Q1 E.P ops with
  | some x =>
   have e1:Sm E n ops k=drawM E n ops x k:=by unfold Sm; rw [hx]; simp only [hy]
   have e2:Cf E ck n ops ⟨t,d⟩ S=Q9 E x ck n ops ⟨t,d⟩ S:=by unfold Cf; rw [hx]; simp only [hy]
   rw [e1,e2]
   unfold drawM Q9
   cases hrs:Vu ops x with
   | none=>exact .inl rfl
   | some rs =>
    simp only
    cases hc:oY E.P n ops x with
    | true =>
     have h:=Rz (E:=E) (n:=n) (ops:=ops) hck Lv rs (Kv E.P ops x.mks t) d S
     rw [Mr] at h
     rw [if_pos rfl,if_pos rfl]
     show Rf (Il k.c ck (Kz ⟨F8 ops.toList t,d⟩ ((rsB E n ops rs Lv).c ck (Kv E.P ops x.mks t) d S))) _
     rcases h with h | h
     ·rw [h]; exact .inl rfl
     ·rw [h]; exact .inr rfl
    | false=>rw [if_neg (by simp),if_neg (by simp)]; exact .inl rfl
  | none =>
  cases hz:Pd E.P ops with
  | some x =>
   have e1:Sm E n ops k=uW E n ops x k:=by unfold Sm; rw [hx]; simp only [hy,hz]
   have e2:Cf E ck n ops ⟨t,d⟩ S=Qi E x ck n ops ⟨t,d⟩ S:=by unfold Cf; rw [hx]; simp only [hy,hz]
   rw [e1,e2]
   unfold uW Qi
   cases hrs:Vv ops x with
   | none=>exact .inl rfl
   | some rs =>
    obtain ⟨p,M,q⟩:=rs
    simp only
    cases hc:lA E.P n ops x with
    | false=>rw [if_neg (by simp),if_neg (by simp)]; exact .inl rfl
    | true =>
     rw [if_pos rfl,if_pos rfl]
     have h:=Rz (E:=E) (n:=n) (ops:=ops) hck Lv p (Iz E.P ops x.mks t) d S
     rw [Mr] at h
     show Rf (thenM2 E.P ops M (fun ck t2 d2 S2=>Il k.c ck (Kz ⟨F8 ops.toList t,d⟩ ((rsB E n ops q Lv).c ck t2 d2 S2))) ck ((rsB E n ops p Lv).c ck (Iz E.P ops x.mks t) d S)) _
     rcases h with h | h
     ·rw [h]; exact .inl rfl
     ·rw [h]
      cases Ef E ck n ops p ⟨Iz E.P ops x.mks t,d⟩ S with
      | fail=>exact .inl rfl
      | out e f' S' =>
       cases e with
       | exit i=>exact .inl rfl
       | ret=>exact .inl rfl
       | pan a=>exact .inl rfl
       | normal =>
        show Rf (Bool.rec .fail (Il k.c ck (Kz ⟨F8 ops.toList t,d⟩ ((rsB E n ops q Lv).c ck f'.tmps f'.dfr S'))) (M.all (cI E.P ops f'.tmps))) (Il k.c ck (if M.all (cI E.P ops f'.tmps)=true then _ else .fail))
        cases M.all (cI E.P ops f'.tmps) with
        | false=>exact .inl rfl
        | true =>
         have h2:=Rz (E:=E) (n:=n) (ops:=ops) hck Lv q f'.tmps f'.dfr S'
         rw [Mr] at h2
         show Rf (Il k.c ck (Kz ⟨F8 ops.toList t,d⟩ ((rsB E n ops q Lv).c ck f'.tmps f'.dfr S'))) _
         rw [if_pos rfl]
         rcases h2 with h2 | h2
         ·rw [h2]; exact .inl rfl
         ·rw [h2]; exact .inr rfl
  | none =>
   have e1:Sm E n ops k=yW E n ops k:=by unfold Sm; rw [hx]; simp only [hy,hz]
   have e2:Cf E ck n ops ⟨t,d⟩ S=Hp E ck n ops ⟨t,d⟩ S:=by unfold Cf; rw [hx]; simp only [hy,hz]
   rw [e1,e2]
   exact drawO_ok hck k t d S
def Tj (E:Env):Ks:=fun ck n ops f S=>match Oy E.P ops with
 | some x=>Ra E x ck n ops f S
 | none=>match Q1 E.P ops with
  | some x=>Q9 E x ck n ops f S
  | none=>match Pd E.P ops with
   | some x=>Qi E x ck n ops f S
   | none=>Us E ck n ops f S
theorem mA (E:Env):Tj E=Cf E:=by
 unfold Tj
 rw [Xw]
 rfl
end Go.Ax
noncomputable section
namespace Go.Ax
open Go.RowKit
theorem kB {E:Env} {D:Ks} {callK:Ec} {rec:Nat → Code → Fr → St → O} (hE:E.Ok) (hD:Rh E D) (hC:∀ base w0,Kw E base w0 callK) (hR:CodeOk E rec):CodeOk E (Ek E D rec callK):=by
 have loop:∀ (base:Nat) (w0:World) (Q:Exit → Act → World → Prop) (n:Nat) (c:Code) (γ:Gh) (S:St) (w:World) (f:Fr) (act:Act),SR base w0 γ S w → AR γ w n f act → GR γ w E.G →
   Jy base w0 n γ S w Q (Ek E D rec callK n (.loop c) f S) → LWp E.P c Q act w:=by
  intro base w0 Q n c γ S w f act hS ha hg hH
  refine LWp.round (hR.code base w0 _ n c γ S w f act hS ha hg ?_)
  unfold Ek at hH
  simp only at hH
  split at hH
  ·rename_i f' S' hr
   rw [hr]
   intro γ' act' w' k1 k2 k3
   exact hR.loop base w0 Q n c γ' S' w' f' act' k1 k3 (hg.mono k2.ev) (hH.later k2)
  ·rename_i r hr
   cases hst:rec n c f S with
   | fail=>rw [hst] at hH; exact hH.elim
   | out e f' S' =>
    rw [hst] at hH
    intro γ' act' w' k1 k2 k3
    have:=hH γ' act' w' k1 k2 k3
    cases e with
    | normal=>exact absurd hst (hr f' S')
    | exit id=>exact this
    | ret=>exact this
    | pan a=>exact this
 refine ⟨fun base w0 Q n c γ S w f act hS ha hg hH=>?_,loop⟩
 cases c with
 | skip=>exact wp_skip (hH γ act w hS (.refl _ _ _) ha)
 | label l=>exact wp_label (hH γ act w hS (.refl _ _ _) ha)
 | region id ops draw =>
  cases draw with
  | false=>exact wp_region_list (Uf hE (hC base w0) _ γ S w f act hS ha hg hH)
  | true=>exact hD base w0 Q _ (hC base w0) n id ops γ S w f act hS ha hg hH
 | seq x y =>
  refine wp_seq (hR.code base w0 _ n x γ S w f act hS ha hg ?_)
  unfold Ek at hH
  simp only at hH
  split at hH
  ·rename_i f' S' hr
   rw [hr]
   intro γ' act' w' k1 k2 k3
   exact hR.code base w0 Q n y γ' S' w' f' act' k1 k3 (hg.mono k2.ev) (hH.later k2)
  ·rename_i r hr
   cases hst:rec n x f S with
   | fail=>rw [hst] at hH; exact hH.elim
   | out e f' S' =>
    rw [hst] at hH
    intro γ' act' w' k1 k2 k3
    have:=hH γ' act' w' k1 k2 k3
    cases e with
    | normal=>exact absurd hst (hr f' S')
    | exit id=>exact this
    | ret=>exact this
    | pan a=>exact this
 | cond c x y =>
  unfold Ek at hH
  simp only at hH
  split at hH
  ·rename_i hc
   have hv:=Fl ha.tmps hg hc
   generalize hq:act.eval c=q at hv
   cases hv
   exact wp_cond_true hq (hR.code base w0 Q n x γ S w f act hS ha hg hH)
  ·rename_i hc
   have hv:=Fl ha.tmps hg hc
   generalize hq:act.eval c=q at hv
   cases hv
   exact wp_cond_false hq (hR.code base w0 Q n y γ S w f act hS ha hg hH)
  ·exact hH.elim
 | block id c =>
  refine wp_block (hR.code base w0 _ n c γ S w f act hS ha hg ?_)
  unfold Ek at hH
  simp only at hH
  split at hH
  ·rename_i id' f' S' hr
   rw [hr]
   intro γ' act' w' k1 k2 k3
   show if id' = id then Q .normal act' w' else Q (.exit id') act' w'
   split
   ·rename_i he
    rw [if_pos he] at hH
    exact hH γ' act' w' k1 k2 k3
   ·rename_i he
    rw [if_neg he] at hH
    exact hH γ' act' w' k1 k2 k3
  ·rename_i r hr
   cases hst:rec n c f S with
   | fail=>rw [hst] at hH; exact hH.elim
   | out e f' S' =>
    rw [hst] at hH
    intro γ' act' w' k1 k2 k3
    have:=hH γ' act' w' k1 k2 k3
    cases e with
    | normal=>exact this
    | exit id'=>exact absurd hst (hr id' f' S')
    | ret=>exact this
    | pan a=>exact this
 | loop c=>exact (loop base w0 Q n c γ S w f act hS ha hg hH).loop
 | exit id=>exact wp_exit (hH γ act w hS (.refl _ _ _) ha)
 | ret=>exact wp_ret (hH γ act w hS (.refl _ _ _) ha)
 | rangeFunc=>exact hH.elim
 | scope=>exact hH.elim
 | goto=>exact hH.elim
 | refuse=>exact hH.elim
def Hx (E:Env) (D:Ks) (ck:Ec):Nat → Nat → Code → Fr → St → O :=
 Nat.rec (fun _ _ _ _=>.fail) (fun _ ih=>Ek E D ih ck)
theorem Ug {E:Env} {D:Ks} {ck:Ec} (hE:E.Ok) (hD:Rh E D) (hC:∀ base w0,Kw E base w0 ck):∀ m,CodeOk E (Hx E D ck m)
 | 0=>⟨fun _ _ _ _ _ _ _ _ _ _ _ _ _ h=>h.elim,fun _ _ _ _ _ _ _ _ _ _ _ _ _ h=>h.elim⟩
 | m + 1=>kB hE hD hC (Ug hE hD hC m)
theorem fP {E:Env} {D:Ks} {ck:Ec}:∀ (m n:Nat) (c:Code) (f:Fr) (S:St),Hx E D ck m n c f S ≠ .fail → Hx E D ck (m + 1) n c f S=Hx E D ck m n c f S
 | 0,n,c,f,S,h=>absurd rfl h
 | m + 1,n,c,f,S,h=>by
  have ih:=fP (E:=E) (D:=D) (ck:=ck) m
  have e1:∀ m n c f S,Hx E D ck (m + 1) n c f S=Ek E D (Hx E D ck m) ck n c f S:=fun _ _ _ _ _=>rfl
  rw [e1] at h ⊢
  rw [e1 m]
  have sub:∀ (c:Code) (f:Fr) (S:St) (r:O),Hx E D ck m n c f S=r → r ≠ .fail → Hx E D ck (m + 1) n c f S=r:=fun c f S r hr hne=>(ih n c f S (by rw [hr]; exact hne)).trans hr
  cases c with
  | seq a b =>
   simp only [Ek] at h ⊢
   cases hr:Hx E D ck m n a f S with
   | fail=>rw [hr] at h; exact absurd rfl h
   | out e f' S' =>
    rw [sub _ _ _ _ hr (fun e=>by cases e)]
    rw [hr] at h
    cases e with
    | normal=>exact ih n b f' S' h
    | _=>rfl
  | loop a =>
   simp only [Ek] at h ⊢
   cases hr:Hx E D ck m n a f S with
   | fail=>rw [hr] at h; exact absurd rfl h
   | out e f' S' =>
    rw [sub _ _ _ _ hr (fun e=>by cases e)]
    rw [hr] at h
    cases e with
    | normal=>exact ih n (.loop a) f' S' h
    | _=>rfl
  | block id a =>
   simp only [Ek] at h ⊢
   cases hr:Hx E D ck m n a f S with
   | fail=>rw [hr] at h; exact absurd rfl h
   | out e f' S'=>rw [sub _ _ _ _ hr (fun e=>by cases e)]
  | cond x a b =>
   simp only [Ek] at h ⊢
   split at h
   ·exact ih n a f S h
   ·exact ih n b f S h
   ·exact absurd rfl h
  | region id ops dr=>cases dr <;> rfl
  | _=>rfl
theorem Za {E:Env} {D:Ks} {ck:Ec} {m m' n:Nat} {c:Code} {f:Fr} {S:St} (hm:m ≤ m') (h:Hx E D ck m n c f S ≠ .fail):Hx E D ck m' n c f S=Hx E D ck m n c f S:=by
 induction hm with
 | refl=>rfl
 | step hm ih=>rw [fP _ _ _ _ _ (by rw [ih]; exact h),ih]
def Qx (k:Option Bx):Bx:=Option.rec (motive:=fun _=>Bx) Lv (fun k=>k) k
def thenB (x k:Bx):Bx:=⟨fun ck t d S=>Il k.c ck (x.c ck t d S)⟩
def fD (x:Bx) (k:Option Bx):Bx:=Option.rec (motive:=fun _=>Bx) x (fun k=>thenB x k) k
def exitB (id:Nat):Bx:=⟨fun _ t d S=>.out (.exit id) ⟨t,d⟩ S⟩
def retB:Bx:=⟨fun _ t d S=>.out .ret ⟨t,d⟩ S⟩
def zZ (a b:Bx) (v:AV):Bx:=SV.rec (motive:=fun _=>Bx) (fun c=>Bool.rec (motive:=fun _=>Bx) b a c) (fun _ _=>Lm) (fun _=>Lm) Lm v.sv
def condB (g:GB) (a b:Bx):Bx:=⟨fun ck t d S=>Option.rec (motive:=fun _=>O) .fail (fun v=>(zZ a b v).c ck t d S) (g.g t)⟩
def blkX (id:Nat) (r:O):O:=O.rec (motive:=fun _=>O) (fun e f S=>Ex.rec (motive:=fun _=>O) (.out .normal f S) (fun i=>Bool.rec (motive:=fun _=>O) (.out (.exit i) f S) (.out .normal f S) (Nat.beq i id)) (.out .ret f S) (fun a=>.out (.pan a) f S) e) .fail r
def blockB (id:Nat) (x:Bx):Bx:=⟨fun ck t d S=>blkX id (x.c ck t d S)⟩
def loopX (ih:T AV → List Dfr → St → O) (r:O):O:=O.rec (motive:=fun _=>O) (fun e f S=>Ex.rec (motive:=fun _=>O) (ih f.tmps f.dfr S) (fun i=>.out (.exit i) f S) (.out .ret f S) (fun a=>.out (.pan a) f S) e) .fail r
def Ym (x:Bx) (ck:Ec) (j:Nat):T AV → List Dfr → St → O:=Nat.rec (motive:=fun _=>T AV → List Dfr → St → O) (fun _ _ _=>.fail) (fun _ ih t d S=>loopX ih (x.c ck t d S)) j
def pZ:Nat:=5000
def xJ (x:Bx):Bx:=⟨fun ck t d S=>Ym x ck pZ t d S⟩
theorem loopB_c (x:Bx) (ck:Ec) (t:T AV) (d:List Dfr) (S:St):(xJ x).c ck t d S=Ym x ck pZ t d S:=rfl
def Jq (E:Env) (n:Nat) (c:Code):Option Bx → Bx:=Code.rec (motive:=fun _=>Option Bx → Bx)
 (fun k=>Qx k)
 (fun _ ops dr k=>Bool.rec (motive:=fun _=>Bx) (opsB E n ops ops.toList (Qx k)) (Sm E n ops (Qx k)) dr)
 (fun _ _ ia ib k=>ia (some (ib k)))
 (fun x _ _ ia ib k=>fD (condB (opG E.G x) (ia none) (ib none)) k)
 (fun id _ ia k=>fD (blockB id (ia none)) k)
 (fun _ ia k=>fD (xJ (ia none)) k)
 (fun _ _ _ _ _ _ _=>Lm)
 (fun id _=>exitB id)
 (fun _ _ _=>Lm)
 (fun _ k=>Qx k)
 (fun _ _=>Lm)
 (fun _=>retB)
 (fun _ _=>Lm) c
def T5 (k:Option Bx) (ck:Ec) (r:O):O:=match k with
 | none=>r
 | some k=>Il k.c ck r
theorem dB (k:Option Bx) (ck:Ec):T5 k ck .fail=.fail:=by cases k <;> rfl
theorem Wf (k:Option Bx) (ck:Ec) (r:O):Il (Qx k).c ck r=T5 k ck r:=by
 cases k with
 | none=>exact Mr ck r
 | some k=>rfl
theorem tailB_c (x:Bx) (k:Option Bx) (ck:Ec) (t:T AV) (d:List Dfr) (S:St):(fD x k).c ck t d S=T5 k ck (x.c ck t d S):=by cases k <;> rfl
def COk (E:Env) (n:Nat) (ck:Ec) (c:Code):Prop:=∀ (k:Option Bx) (t:T AV) (d:List Dfr) (S:St),(Jq E n c k).c ck t d S=.fail ∨ ∃ m,T5 k ck (Hx E (Cf E) ck m n c ⟨t,d⟩ S)=(Jq E n c k).c ck t d S
theorem jV {E:Env} {n:Nat} {ck:Ec} {c:Code} {x:Bx} (h:∀ (t:T AV) (d:List Dfr) (S:St),x.c ck t d S=.fail ∨ ∃ m,Hx E (Cf E) ck m n c ⟨t,d⟩ S=x.c ck t d S) (k:Option Bx) (t:T AV) (d:List Dfr) (S:St) :
  (fD x k).c ck t d S=.fail ∨ ∃ m,T5 k ck (Hx E (Cf E) ck m n c ⟨t,d⟩ S)=(fD x k).c ck t d S:=by
 rw [tailB_c]
 rcases h t d S with h | ⟨m,h⟩
 ·rw [h,dB]; exact .inl rfl
 ·exact .inr ⟨m,by rw [h]⟩
theorem Pf {E:Env} {n:Nat} {ck:Ec} (hck:CkF E ck):∀ c:Code,COk E n ck c
 | .skip=>fun k t d S=>.inr ⟨1,(Wf k ck _).symm⟩
 | .label l=>fun k t d S=>.inr ⟨1,(Wf k ck _).symm⟩
 | .region id ops false=>fun k t d S=>by
  have h:=wU (E:=E) (n:=n) (ops:=ops) hck (Qx k) ops.toList t d S
  rw [Wf] at h
  show (opsB E n ops ops.toList (Qx k)).c ck t d S=.fail ∨ _
  rcases h with h | h
  ·exact .inl h
  ·exact .inr ⟨1,h.symm⟩
 | .region id ops true=>fun k t d S=>by
  have h:=drawB_ok (E:=E) (n:=n) (ops:=ops) hck (Qx k) t d S
  rw [Wf] at h
  show (Sm E n ops (Qx k)).c ck t d S=.fail ∨ _
  rcases h with h | h
  ·exact .inl h
  ·exact .inr ⟨1,h.symm⟩
 | .seq a b=>fun k t d S=>by
  have ha:=Pf (n:=n) hck a (some (Jq E n b k)) t d S
  show (Jq E n a (some (Jq E n b k))).c ck t d S=.fail ∨ ∃ m,_=(Jq E n a (some (Jq E n b k))).c ck t d S
  rcases ha with ha | ⟨m1,ha⟩
  ·exact .inl ha
  ·rw [← ha]
   cases hr:Hx E (Cf E) ck m1 n a ⟨t,d⟩ S with
   | fail=>exact .inl rfl
   | out e f' S' =>
    have hne:Hx E (Cf E) ck m1 n a ⟨t,d⟩ S ≠ .fail:=by rw [hr]; exact fun e=>by cases e
    cases e with
    | normal =>
     have hb:=Pf (n:=n) hck b k f'.tmps f'.dfr S'
     show (Jq E n b k).c ck f'.tmps f'.dfr S' = .fail ∨ ∃ m,_=(Jq E n b k).c ck f'.tmps f'.dfr S'
     rcases hb with hb | ⟨m2,hb⟩
     ·exact .inl hb
     ·rw [← hb]
      by_cases hf:Hx E (Cf E) ck m2 n b ⟨f'.tmps,f'.dfr⟩ S' = .fail
      ·rw [hf,dB]; exact .inl rfl
      ·refine .inr ⟨max m1 m2 + 1,?_⟩
       have e1:Hx E (Cf E) ck (max m1 m2 + 1) n (.seq a b) ⟨t,d⟩ S=Hx E (Cf E) ck m2 n b f' S':=by
        show Ek E (Cf E) (Hx E (Cf E) ck (max m1 m2)) ck n (.seq a b) ⟨t,d⟩ S=_
        simp only [Ek]
        rw [Za (Nat.le_max_left m1 m2) hne,hr]
        exact Za (Nat.le_max_right m1 m2) hf
       rw [e1]
    | exit i=>refine .inr ⟨m1 + 1,?_⟩; show T5 k ck (Ek E (Cf E) (Hx E (Cf E) ck m1) ck n (.seq a b) ⟨t,d⟩ S)=_; simp only [Ek,hr]; cases k <;> rfl
    | ret=>refine .inr ⟨m1 + 1,?_⟩; show T5 k ck (Ek E (Cf E) (Hx E (Cf E) ck m1) ck n (.seq a b) ⟨t,d⟩ S)=_; simp only [Ek,hr]; cases k <;> rfl
    | pan a=>refine .inr ⟨m1 + 1,?_⟩; show T5 k ck (Ek E (Cf E) (Hx E (Cf E) ck m1) ck n (.seq _ b) ⟨t,d⟩ S)=_; simp only [Ek,hr]; cases k <;> rfl
 | .cond x a b=>jV fun t d S=>by
  have ha:=Pf (n:=n) hck a none t d S
  have hb:=Pf (n:=n) hck b none t d S
  show Option.rec (motive:=fun _=>O) .fail (fun v=>(zZ (Jq E n a none) (Jq E n b none) v).c ck t d S) ((opG E.G x).g t)=.fail ∨ ∃ m,_=Option.rec (motive:=fun _=>O) .fail (fun v=>(zZ (Jq E n a none) (Jq E n b none) v).c ck t d S) ((opG E.G x).g t)
  rw [G5]
  cases hx:Bc E.G t x with
  | none=>exact .inl rfl
  | some v =>
   show (zZ (Jq E n a none) (Jq E n b none) v).c ck t d S=.fail ∨ ∃ m,_=(zZ (Jq E n a none) (Jq E n b none) v).c ck t d S
   unfold zZ
   cases hv:v.sv with
   | b c =>
    have hvv:=sv_b hv
    subst hvv
    cases c with
    | true =>
     show (Jq E n a none).c ck t d S=.fail ∨ ∃ m,_=(Jq E n a none).c ck t d S
     rcases ha with ha | ⟨m,ha⟩
     ·exact .inl ha
     ·refine .inr ⟨m + 1,?_⟩
      rw [← ha]
      show Ek E (Cf E) (Hx E (Cf E) ck m) ck n (.cond x a b) ⟨t,d⟩ S=_
      simp only [Ek,hx]; rfl
    | false =>
     show (Jq E n b none).c ck t d S=.fail ∨ ∃ m,_=(Jq E n b none).c ck t d S
     rcases hb with hb | ⟨m,hb⟩
     ·exact .inl hb
     ·refine .inr ⟨m + 1,?_⟩
      rw [← hb]
      show Ek E (Cf E) (Hx E (Cf E) ck m) ck n (.cond x a b) ⟨t,d⟩ S=_
      simp only [Ek,hx]; rfl
   | i=>exact .inl rfl
   | s=>exact .inl rfl
   | no=>exact .inl rfl
 | .block id a=>jV fun t d S=>by
  have ha:=Pf (n:=n) hck a none t d S
  show blkX id ((Jq E n a none).c ck t d S)=.fail ∨ ∃ m,_=blkX id ((Jq E n a none).c ck t d S)
  rcases ha with ha | ⟨m,ha⟩
  ·rw [ha]; exact .inl rfl
  ·rw [← ha]
   refine .inr ⟨m + 1,?_⟩
   show Ek E (Cf E) (Hx E (Cf E) ck m) ck n (.block id a) ⟨t,d⟩ S=blkX id (Hx E (Cf E) ck m n a ⟨t,d⟩ S)
   simp only [Ek]
   cases Hx E (Cf E) ck m n a ⟨t,d⟩ S with
   | fail=>rfl
   | out e f' S' =>
    cases e with
    | exit i =>
     show (if i=id then O.out .normal f' S' else .out (.exit i) f' S')=Bool.rec (motive:=fun _=>O) (.out (.exit i) f' S') (.out .normal f' S') (Nat.beq i id)
     rw [Wp]
     by_cases h:i=id
     ·rw [if_pos h,decide_eq_true h]
     ·rw [if_neg h,decide_eq_false h]
    | _=>rfl
 | .loop a=>jV fun t d S=>by
  have key:∀ (j:Nat) (t:T AV) (d:List Dfr) (S:St),Ym (Jq E n a none) ck j t d S=.fail ∨ ∃ m,Hx E (Cf E) ck m n (.loop a) ⟨t,d⟩ S=Ym (Jq E n a none) ck j t d S:=by
   intro j
   induction j with
   | zero=>exact fun t d S=>.inl rfl
   | succ j ih =>
    intro t d S
    have ha:=Pf (n:=n) hck a none t d S
    show loopX (Ym (Jq E n a none) ck j) ((Jq E n a none).c ck t d S)=.fail ∨ ∃ m,_=loopX (Ym (Jq E n a none) ck j) ((Jq E n a none).c ck t d S)
    rcases ha with ha | ⟨m1,ha⟩
    ·rw [ha]; exact .inl rfl
    ·rw [← ha]
     have ha2:T5 none ck (Hx E (Cf E) ck m1 n a ⟨t,d⟩ S)=Hx E (Cf E) ck m1 n a ⟨t,d⟩ S:=rfl
     rw [ha2]
     cases hr:Hx E (Cf E) ck m1 n a ⟨t,d⟩ S with
     | fail=>exact .inl rfl
     | out e f' S' =>
      have hne:Hx E (Cf E) ck m1 n a ⟨t,d⟩ S ≠ .fail:=by rw [hr]; exact fun e=>by cases e
      cases e with
      | normal =>
       show Ym (Jq E n a none) ck j f'.tmps f'.dfr S' = .fail ∨ ∃ m,_=Ym (Jq E n a none) ck j f'.tmps f'.dfr S'
       rcases ih f'.tmps f'.dfr S' with h | ⟨m2,h⟩
       ·exact .inl h
       ·rw [← h]
        by_cases hf:Hx E (Cf E) ck m2 n (.loop a) ⟨f'.tmps,f'.dfr⟩ S' = .fail
        ·rw [hf]; exact .inl rfl
        ·refine .inr ⟨max m1 m2 + 1,?_⟩
         show Ek E (Cf E) (Hx E (Cf E) ck (max m1 m2)) ck n (.loop a) ⟨t,d⟩ S=_
         simp only [Ek]
         rw [Za (Nat.le_max_left m1 m2) hne,hr]
         exact Za (Nat.le_max_right m1 m2) hf
      | exit i=>refine .inr ⟨m1 + 1,?_⟩; show Ek E (Cf E) (Hx E (Cf E) ck m1) ck n (.loop a) ⟨t,d⟩ S=_; simp only [Ek,hr]; rfl
      | ret=>refine .inr ⟨m1 + 1,?_⟩; show Ek E (Cf E) (Hx E (Cf E) ck m1) ck n (.loop a) ⟨t,d⟩ S=_; simp only [Ek,hr]; rfl
      | pan b=>refine .inr ⟨m1 + 1,?_⟩; show Ek E (Cf E) (Hx E (Cf E) ck m1) ck n (.loop a) ⟨t,d⟩ S=_; simp only [Ek,hr]; rfl
  show (xJ (Jq E n a none)).c ck t d S=.fail ∨ ∃ m,_=(xJ (Jq E n a none)).c ck t d S
  rw [loopB_c]
  exact key _ t d S
 | .exit id=>fun k t d S=>.inr ⟨1,by cases k <;> rfl⟩
 | .ret=>fun k t d S=>.inr ⟨1,by cases k <;> rfl⟩
 | .rangeFunc .. => fun k t d S=>.inl rfl
 | .scope _=>fun k t d S=>.inl rfl
 | .goto _=>fun k t d S=>.inl rfl
 | .refuse _=>fun k t d S=>.inl rfl
theorem tI {E:Env} {t:TypeId} {g:GB} {f:T AV} {S:St} {a:AV} (h:(gT E.P t g).v f S=some a):∃ b,g.g f=some b ∧ Cv E.P S t b=some a:=by
 unfold gT at h
 split at h
 ·rename_i ht
  obtain ⟨b,h1,h2⟩:=F5 h
  exact ⟨b,h1,ld1_ok ht h2⟩
 ·rename_i ht
  split at h
  ·rename_i n hs
   obtain ⟨b,h1,h2⟩:=F5 h
   exact ⟨b,h1,ldN_ok ht hs h2⟩
  ·cases h
 ·cases h
def Y3 (P:Program) (r:ResultVar):VB:=match r with
 | .tmp t=>xB (lO t)
 | .cell x t=>gT P t (lO x)
def resX (l:List VB) (f:T AV) (S:St):Option (List AV):=List.rec (motive:=fun _=>Option (List AV)) (some []) (fun v _ ih=>Option.rec (motive:=fun _=>Option (List AV)) none (fun a=>O2 a ih) (v.v f S)) l
theorem wP {E:Env} {f:T AV} {S:St}:∀ {rs:List ResultVar} {l:List AV},resX (rs.map (Y3 E.P)) f S=some l → Bg E f S rs=some l
 | [],l,h=>h
 | r :: rs,l,h=>by
  have h:Option.rec (motive:=fun _=>Option (List AV)) none (fun a=>O2 a (resX (rs.map (Y3 E.P)) f S)) ((Y3 E.P r).v f S)=some l:=h
  cases hv:(Y3 E.P r).v f S with
  | none=>rw [hv] at h; cases h
  | some a =>
   rw [hv] at h
   have h:O2 a (resX (rs.map (Y3 E.P)) f S)=some l:=h
   cases hq:resX (rs.map (Y3 E.P)) f S with
   | none=>rw [hq] at h; cases h
   | some q =>
    rw [hq] at h
    have h:some (a :: q)=some l:=h
    injection h with h; subst h
    have ih:=wP (E:=E) hq
    cases r with
    | tmp t =>
     have hv:(lO t).g f=some a:=hv
     rw [V4] at hv
     simp only [Bg,hv,ih]
    | cell x t =>
     obtain ⟨b,h1,h2⟩:=tI (E:=E) hv
     rw [V4] at h1
     simp only [Bg,h1,h2,ih]
def pW (l:List VB) (f:T AV) (S:St):R:=Option.rec (motive:=fun _=>R) .fail (fun l=>.ret (Cd l) S) (resX l f S)
def uO (l:List VB) (r:O):R:=O.rec (motive:=fun _=>R) (fun e f S=>List.rec (motive:=fun _=>R) (Ex.rec (motive:=fun _=>R) (pW l f.tmps S) (fun _=>.fail) (pW l f.tmps S) (fun a=>.pan a S) e) (fun _ _ _=>.fail) f.dfr) .fail r
def V0 (l:List AV):Nat → T AV:=List.rec (motive:=fun _=>Nat → T AV) (fun _=>.leaf) (fun a _ ih k=>(setS k).s (ih (Nat.succ k)) a) l
theorem pN:∀ (l:List AV) (k:Nat),V0 l k=B7 l k
 | [],k=>rfl
 | a :: r,k=>by
  show (setS k).s (V0 r (k + 1)) a=_
  rw [wG,pN r (k + 1)]; rfl
def wJ (E:Env) (ck:Ec) (m:Nat):Nat → Code → Fr → St → O :=
 Nat.rec (motive:=fun _=>Nat → Code → Fr → St → O) (fun _ _ _ _=>.fail) (fun _ ih=>aC E (Tj E) ih ck) m
theorem nP (E:Env) (ck:Ec):∀ m,wJ E ck m=Hx E (Cf E) ck m
 | 0=>rfl
 | m + 1=>by
  have ih:=nP E ck m
  show (fun n c f S=>aC E (Tj E) (wJ E ck m) ck n c f S)=_
  rw [ih,mA]
  funext n c f S
  exact fG ..
def defers (l:List Oper):Bool:=l.any fun o=>match o.op with | .defer _=>true | _=>false
def Ow:Code → Bool
 | .region _ ops _=>defers ops.toList
 | .seq a b=>Ow a || Ow b
 | .cond _ a b=>Ow a || Ow b
 | .block _ a=>Ow a
 | .loop a=>Ow a
 | _=>false
def failF:FB:=⟨fun _ _ _=>.fail⟩
def slowF (E:Env) (k:FuncId):FB:=⟨fun ck args S=>Ko E (wJ E ck pZ) k args S⟩
def fastF (x:Bx) (n:Nat) (l:List VB):FB:=⟨fun ck args S=>Bool.rec (motive:=fun _=>R) .fail (uO l (x.c ck (V0 args 0) [] S)) (Nat.ble (Xj args) n)⟩
def fnB (E:Env) (k:FuncId):FB:=match E.F k with
 | none=>failF
 | some fn=>match E.I k with
  | some g=>⟨fun _ args S=>g args S⟩
  | none=>match fn.body with
   | none=>failF
   | some c=>if Ow c then slowF E k else fastF (Jq E fn.ntmps c none) fn.ntmps (fn.results.toList.map (Y3 E.P))
def Qk (E:Env) (m:Nat):Ec:=Nat.rec (motive:=fun _=>Ec) (fun _ _ _=>.fail) (fun _ ih k args S=>(fnB E k).f ih args S) m
theorem endX_ok {E:Env} {fn:Func} {rec:Nat → Code → Fr → St → O} (r:O):uO (fn.results.toList.map (Y3 E.P)) r=.fail ∨ uO (fn.results.toList.map (Y3 E.P)) r=Wb E rec fn r:=by
 have give:∀ (f:T AV) (S:St),pW (fn.results.toList.map (Y3 E.P)) f S=.fail ∨ pW (fn.results.toList.map (Y3 E.P)) f S=L1 E fn f S:=fun f S=>by
  unfold pW
  cases hq:resX (fn.results.toList.map (Y3 E.P)) f S with
  | none=>exact .inl rfl
  | some l =>
   refine .inr ?_
   unfold L1
   rw [wP hq]
 cases r with
 | fail=>exact .inl rfl
 | out e f S =>
  obtain ⟨t,d⟩:=f
  cases d with
  | cons x y=>exact .inl rfl
  | nil=>cases e with
   | normal=>exact give t S
   | exit i=>exact .inl rfl
   | ret=>exact give t S
   | pan a=>exact .inr rfl
theorem fnB_ok {E:Env} {ck:Ec} (hck:CkF E ck) (k:FuncId) (args:List AV) (S:St):(fnB E k).f ck args S=.fail ∨ ((E.F k).isSome=true ∧ ∃ m,(fnB E k).f ck args S=Ko E (Hx E (Cf E) ck m) k args S):=by
 unfold fnB
 cases hF:E.F k with
 | none=>exact .inl rfl
 | some fn =>
  simp only
  cases hI:E.I k with
  | some g=>exact .inr ⟨rfl,0,by simp only [Ko,hI]⟩
  | none =>
   simp only
   cases hb:fn.body with
   | none=>exact .inl rfl
   | some c =>
    simp only
    split
    ·exact .inr ⟨rfl,pZ,by show Ko E (wJ E ck pZ) k args S=_; rw [nP]⟩
    ·show (Bool.rec (motive:=fun _=>R) .fail (uO _ ((Jq E fn.ntmps c none).c ck (V0 args 0) [] S)) (Nat.ble (Xj args) fn.ntmps):R)=.fail ∨ _ ∧ ∃ m,(Bool.rec (motive:=fun _=>R) .fail (uO _ ((Jq E fn.ntmps c none).c ck (V0 args 0) [] S)) (Nat.ble (Xj args) fn.ntmps):R)=_
     cases hl:Nat.ble (Xj args) fn.ntmps with
     | false=>exact .inl rfl
     | true =>
      have hle:args.length ≤ fn.ntmps:=by rw [← Oa]; exact Nat.le_of_ble_eq_true hl
      show uO _ ((Jq E fn.ntmps c none).c ck (V0 args 0) [] S)=.fail ∨ _ ∧ ∃ m,uO _ ((Jq E fn.ntmps c none).c ck (V0 args 0) [] S)=_
      rcases Pf hck c none (V0 args 0) [] S with h | ⟨m,h⟩
      ·rw [h]; exact .inl rfl
      ·rw [← h]
       rcases endX_ok (E:=E) (fn:=fn) (rec:=Hx E (Cf E) ck m) (T5 none ck (Hx E (Cf E) ck m fn.ntmps c ⟨V0 args 0,[]⟩ S)) with h2 | h2
       ·exact .inl h2
       ·refine .inr ⟨rfl,m,h2.trans ?_⟩
        simp only [Ko,hI,hF,hb,if_pos hle,pN]
        rfl
theorem mH {E:Env}:∀ m,CkF E (Qk E m)
 | 0=>fun k args S h=>absurd rfl h
 | m + 1=>fun k args S h=>by
  rcases fnB_ok (mH m) k args S with h2 | ⟨h2,_⟩
  ·exact absurd h2 h
  ·exact h2
theorem Wk {E:Env} (hE:E.Ok) (hI:Kf E) (hmix:E.P.follows .mixedOrders=true):∀ m base w0,Kw E base w0 (Qk E m)
 | 0,base,w0=>fun k args S h=>absurd rfl h
 | m + 1,base,w0=>by
  intro k args S hne γ w vs hS hg hv hF
  rcases fnB_ok (mH m) k args S with h2 | ⟨_,j,h2⟩
  ·exact absurd h2 hne
  ·have e:Qk E (m + 1) k args S=Ko E (Hx E (Cf E) (Qk E m) j) k args S:=h2
   rw [e] at hne ⊢
   exact O9 hE hI (Ug hE (Ji hE hmix) (Wk hE hI hmix m) j) base w0 k args S hne γ w vs hS hg hv hF
end Go.Ax
noncomputable section
namespace Go.Ax
open Go.RowKit
section
variable {E:Env}
theorem qU (hE:E.Ok) (hI:Kf E) (hmix:E.P.follows .mixedOrders=true) (hG:E.G=fun _=>none) {m:Nat} {k:FuncId} {args:List AV} (h:Zp (Qk E m k args St0)=true) (hF:(E.F k).isSome=true) {w:World} {vs:List Value} (hv:VRL Gh0 w args vs) :
  Calls E.P k vs.toArray w fun e w'=>e=.returned (.bool true) ∧ Below w.heap.size w w':=by
 cases hr:Qk E m k args St0 with
 | fail=>rw [hr] at h; cases h
 | pan a S=>rw [hr] at h; cases h
 | ret a S =>
  rw [hr] at h
  have hne:Qk E m k args St0 ≠ .fail:=by rw [hr]; exact fun e=>by cases e
  have:=Wk hE hI hmix m w.heap.size w k args St0 hne Gh0 w vs (SR.start w) (by rw [hG]; exact GR.none) hv hF
  rw [hr] at this
  refine this.mono fun e w' he=>?_
  obtain ⟨γ',v,h1,h2,h3,rfl⟩:=he
  unfold Zp at h
  split at h
  ·rename_i b S' heq
   injection heq with e1 e2
   subst e1; subst h
   cases h3
   exact ⟨rfl,h1.below⟩
  ·cases h
end
end Go.Ax
