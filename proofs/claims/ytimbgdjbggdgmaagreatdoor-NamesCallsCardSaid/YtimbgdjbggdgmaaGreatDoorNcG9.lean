/- Xc -/
import Derived.Test.YtimbgdjbggdgmaaGreatDoorNcG8
set_option linter.unusedVariables false
set_option linter.unusedSimpArgs false
noncomputable section
namespace Go.Ax
open Go.RowKit
def J5(k:Ck)(ck:Dk)(r:O):O:=O.rec (motive:=fun _=>O) (fun e f S=>Ex.rec (motive:=fun _=>O) (k ck f.tmps f.dfr S) (fun i=>.out (.exit i) f S) (.out .ret f S) (fun a=>.out (.pan a) f S) e) .fail r
def N9:Bx:=⟨fun _ _ _ _=>.fail⟩
def N0:Bx:=⟨fun _ t d S=>.out .normal ⟨t,d⟩ S⟩
def idS:SB:=⟨fun t _=>t⟩
def dstS(n:Nat)(dst:Option Tmp):Option SB:=match dst with
 |none=>some idS
 |some d=>if d<n then some (setS d)else none
theorem Oz{n:Nat}{dst:Option Tmp}{s:SB}(h:dstS n dst=some s)(t:T AV)(d:List Dfr)(a:AV)(S:St):M9 n ⟨t,d⟩ dst a S=.out .normal ⟨s.s t a,d⟩ S:=by
 cases dst with
 |none=>injection h with h;subst h;rfl
 |some x =>
  simp only[dstS]at h
  split at h
  ·rename_i hx
   injection h with h;subst h
   simp only[M9,if_pos hx,setS_ok]
  ·cases h
def Rf(x y:O):Prop:=x=.fail∨x=y
theorem Rf.refl(x:O):Rf x x:=.inr rfl
def CkF(E:Env)(ck:Dk):Prop:=∀k args S,ck k args S≠.fail→(E.F k).isSome=true
def Sh(E:Env)(callK:Dk)(n:Nat)(o:Oper)(f:Fr)(S:St):O:=match Bg E f.tmps S o with
  |.val a S'=>M9 n f o.dst a S'
  |.skip S'=>M9 n f o.dst (.tup []) S'
  |.enter k args S'=>match callK k args S' with
   |.ret a S''=>M9 n f o.dst a S''
   |.pan a S''=>.out (.pan a) f S''
   |.fail=>.fail
  |.dfr fn caps args S'=>M9 n { f with dfr:=⟨fn,caps,args⟩ :: f.dfr } o.dst (.tup []) S'
  |.pan a S'=>.out (.pan a) f S'
  |.fail=>.fail
def retX(s:SB)(k:Bx)(ck:Dk)(t:T AV)(d:List Dfr)(r:R):O:=R.rec (motive:=fun _=>O) (fun a S=>k.c ck (s.s t a) d S) (fun a S=>.out (.pan a) ⟨t,d⟩ S) .fail r
def yieldX(s:SB)(k:Bx)(ck:Dk)(t:T AV)(d:List Dfr)(r:OR):O:=OR.rec (motive:=fun _=>O) (fun a S=>k.c ck (s.s t a) d S) (fun S=>k.c ck (s.s t (.tup [])) d S) (fun f args S=>retX s k ck t d (ck f args S)) (fun fn caps args S=>k.c ck (s.s t (.tup [])) (⟨fn,caps,args⟩ :: d) S) (fun a S=>.out (.pan a) ⟨t,d⟩ S) .fail r
def slowC(E:Env)(o:Oper)(s:SB)(k:Bx):Bx:=⟨fun ck t d S=>yieldX s k ck t d (Tp E t S o)⟩
def lookB(v:VB)(s:SB)(k:Bx):Bx:=⟨fun ck t d S=>Option.rec (motive:=fun _=>O) .fail (fun a=>k.c ck (s.s t a) d S) (v.v t S)⟩
def stC(S:St)(id off:Nat)(b:AV)(kk:St→O)(c:Option Cell):O:=Option.rec (motive:=fun _=>O) .fail (fun c=>Cell.rec (motive:=fun _=>O) (fun cs=>Option.rec (motive:=fun _=>O) .fail (fun r=>kk ⟨S.next,S.mem.set id (some (.box r))⟩) (Np off (Ng b) cs)) (fun _=>.fail) (fun _=>.fail) c) c
def st1(sz:Nat)(S:St)(b:AV)(kk:St→O)(a:AV):O:=PV.rec (motive:=fun _=>O) (fun id off=>Bool.rec (motive:=fun _=>O) .fail (stC S id off b kk (S.mem.get id)) (Oh b sz)) (fun _=>.fail) .fail (fun _ _ _ _=>.fail) (fun _=>.fail) (fun _=>.fail) .fail (fun _ _ _ _=>.fail) a.pv
def storeB(sz:Nat)(gx gy:GB)(s:SB)(k:Bx):Bx:=⟨fun ck t d S=>Option.rec (motive:=fun _=>O) .fail (fun a=>Option.rec (motive:=fun _=>O) .fail (fun b=>st1 sz S b (fun S'=>k.c ck (s.s t (.tup [])) d S') a) (gy.g t)) (gx.g t)⟩
def mJ(l:List GB)(t:T AV):Option (List AV):=List.rec (motive:=fun _=>Option (List AV)) (some []) (fun g _ ih=>Option.rec (motive:=fun _=>Option (List AV)) none (fun a=>Pq a ih) (g.g t)) l
def callFB(f:FuncId)(args:List GB)(s:SB)(k:Bx):Bx:=⟨fun ck t d S=>Option.rec (motive:=fun _=>O) .fail (fun l=>retX s k ck t d (ck f l S)) (mJ args t)⟩
def gM(s:SB)(k:Bx)(ck:Dk)(t:T AV)(d:List Dfr)(S:St)(args:List AV)(a:AV):O:=match a with
 |.fn (.func f) first caps=>retX s k ck t d (ck f (first ++ args ++ caps) S)
 |_=>.fail
def callCB(g:GB)(args:List GB)(s:SB)(k:Bx):Bx:=⟨fun ck t d S=>Option.rec (motive:=fun _=>O) .fail (fun a=>Option.rec (motive:=fun _=>O) .fail (fun l=>gM s k ck t d S l a) (mJ args t)) (g.g t)⟩
def allocB(z:List AV)(s:SB)(k:Bx):Bx:=⟨fun ck t d S=>k.c ck (s.s t (.ptr S.next 0)) d ⟨Nat.succ S.next,S.mem.set S.next (some (.box z))⟩⟩
def boxB(g:GB)(s:SB)(k:Bx):Bx:=⟨fun ck t d S=>Option.rec (motive:=fun _=>O) .fail (fun a=>Bool.rec (motive:=fun _=>O) .fail (k.c ck (s.s t (.ptr S.next 0)) d ⟨Nat.succ S.next,S.mem.set S.next (some (.box (Ng a)))⟩) (eF a)) (g.g t)⟩
def zeroOf(P:Program)(e:TypeId):Option (List AV):=match P.info? e with
 |some i=>match i.zero with
  |some z=>match Bo 8 z with
   |some a=>if a.noTup then some a.cells else none
   |none=>none
  |none=>none
 |none=>none
def gB(E:Env)(o:Oper)(s:SB)(k:Bx):Bx:=if Gc o then lookB (qQ E o) s k else match o.op with
 |.store t x y=>match Cl E.P t with
  |some n=>storeB n (opG E.G x) (opG E.G y) s k
  |none=>N9
 |.alloc e=>match zeroOf E.P e with
  |some z=>allocB z s k
  |none=>N9
 |.box _ x=>boxB (opG E.G x) s k
 |.call c=>match c.callee with
  |.value (.func f)=>callFB f (c.args.toList.map (opG E.G)) s k
  |.value x=>callCB (opG E.G x) (c.args.toList.map (opG E.G)) s k
  |_=>slowC E o s k
 |_=>slowC E o s k
theorem gT(G:Gl)(t:T AV):∀xs:List Operand,mJ (xs.map (opG G)) t=C9 (A6 G t) xs
 | []=>rfl
 |x :: r=>by
  have ih:=gT G t r
  show Option.rec (motive:=fun _=>Option (List AV)) none (fun a=>Pq a (mJ (r.map (opG G)) t)) ((opG G x).g t)=_
  rw[ih,G5];simp only[C9];cases A6 G t x <;> cases C9 (A6 G t) r <;> rfl
section
variable {E:Env} {n:Nat} {o:Oper} {s:SB} {k:Bx} {ck:Dk} {t:T AV} {d:List Dfr} {S:St}
theorem retX_ok(hs:dstS n o.dst=some s)(r:R):retX s k ck t d r=J5 k.c ck (match r with
   |.ret a S''=>M9 n ⟨t,d⟩ o.dst a S''
   |.pan a S''=>.out (.pan a) ⟨t,d⟩ S''
   |.fail=>.fail):=by
 cases r with
 |ret a S'=>simp only[Oz hs];rfl
 |pan a S'=>rfl
 |fail=>rfl
theorem slowC_ok(hs:dstS n o.dst=some s):(slowC E o s k).c ck t d S=J5 k.c ck (Sh E ck n o ⟨t,d⟩ S):=by
 show yieldX s k ck t d (Tp E t S o)=_
 rw[Q6];unfold Sh
 cases Bg E t S o with
 |val a S'=>simp only[Oz hs];rfl
 |skip S'=>simp only[Oz hs];rfl
 |enter f args S'=>exact retX_ok hs _
 |dfr fn caps args S'=>simp only[Oz hs];rfl
 |pan a S'=>rfl
 |fail=>rfl
theorem st1_ok{P:Program}{sz:Nat}{ty:TypeId}{a b:AV}{kk:St→O}(hz:Cl P ty=some sz):st1 sz S b kk a=.fail∨∃S',Bl P S ty a b=some S'∧st1 sz S b kk a=kk S':=by
 unfold st1
 cases hp:a.pv with
 |p id off =>
  rw[pv_p hp]
  show Bool.rec (motive:=fun _=>O) .fail (stC S id off b kk (S.mem.get id)) (Oh b sz)=.fail∨∃S',_∧Bool.rec (motive:=fun _=>O) .fail (stC S id off b kk (S.mem.get id)) (Oh b sz)=kk S'
  cases hk:Oh b sz with
  |false=>exact .inl rfl
  |true =>
   obtain⟨k1,k2⟩:=Td hk
   show stC S id off b kk (S.mem.get id)=.fail∨∃S',_∧stC S id off b kk (S.mem.get id)=kk S'
   cases hm:S.mem.get id with
   |none=>exact .inl rfl
   |some c =>
    cases c with
    |box cs =>
     show Option.rec (motive:=fun _=>O) .fail (fun r=>kk ⟨S.next,S.mem.set id (some (.box r))⟩) (Np off (Ng b) cs)=.fail∨∃S',_∧Option.rec (motive:=fun _=>O) .fail (fun r=>kk ⟨S.next,S.mem.set id (some (.box r))⟩) (Np off (Ng b) cs)=kk S'
     cases ho:Np off (Ng b) cs with
     |none=>exact .inl rfl
     |some r =>
      obtain⟨k3,k4⟩:=Rw _ _ _ _ ho;rw[Rb]at k3 k4;refine .inr ⟨⟨S.next,S.mem.set id (some (.box r))⟩,?_,rfl⟩;simp only[Bl,hm,hz,k1,k2,beq_self_eq_true,Bool.true_and];rw[if_pos (by rw[k2]at k3;simpa using k3),k4,k2]
    |tip m=>exact .inl rfl
    |mp es=>exact .inl rfl
 |e=>exact .inl rfl
 |n=>exact .inl rfl
 |l=>exact .inl rfl
 |a=>exact .inl rfl
 |t=>exact .inl rfl
 |no=>exact .inl rfl
 |w=>exact .inl rfl
theorem coreB_ok(hck:CkF E ck)(hs:dstS n o.dst=some s):Rf ((gB E o s k).c ck t d S) (J5 k.c ck (Sh E ck n o ⟨t,d⟩ S)):=by
 have slow:Rf ((slowC E o s k).c ck t d S) (J5 k.c ck (Sh E ck n o ⟨t,d⟩ S)):=.inr (slowC_ok hs);unfold gB
 split
 ·rename_i hl
  show Rf (Option.rec (motive:=fun _=>O) .fail (fun a=>k.c ck (s.s t a) d S) ((qQ E o).v t S)) _
  cases hv:(qQ E o).v t S with
  |none=>exact .inl rfl
  |some a =>
   have:=valV_ok hl t S a hv;refine .inr ?_;simp only[Sh,this,Oz hs];rfl
 ·split
  ·rename_i ty x y ho
   split
   ·rename_i sz hz
    show Rf (Option.rec (motive:=fun _=>O) .fail (fun a=>Option.rec (motive:=fun _=>O) .fail (fun b=>st1 sz S b (fun S'=>k.c ck (s.s t (.tup [])) d S') a) ((opG E.G y).g t)) ((opG E.G x).g t)) _
    rw[G5,G5]
    cases hx:A6 E.G t x with
    |none=>exact .inl rfl
    |some a =>
     cases hy:A6 E.G t y with
     |none=>exact .inl rfl
     |some b =>
      show Rf (st1 sz S b (fun S'=>k.c ck (s.s t (.tup [])) d S') a) _
      rcases st1_ok (S:=S) (a:=a) (b:=b) (kk:=fun S'=>k.c ck (s.s t (.tup [])) d S') hz with h | ⟨S',h1,h2⟩
      ·exact .inl h
      ·refine .inr (h2.trans ?_)
       simp only[Sh,Bg,ho,hx,hy,h1,Oz hs];rfl
   ·exact .inl rfl
  ·rename_i e ho
   split
   ·rename_i z hz
    refine .inr ?_;unfold zeroOf at hz
    split at hz
    ·rename_i i hi
     split at hz
     ·rename_i z0 hz0
      split at hz
      ·rename_i a ha
       split at hz
       ·rename_i hn
        injection hz with hz;subst hz
        simp only[Sh,Bg,ho,Ga,hi,hz0,ha,if_pos hn,ofOptS,Oz hs];rfl
       ·cases hz
      ·cases hz
     ·cases hz
    ·cases hz
   ·exact .inl rfl
  ·rename_i e x ho
   show Rf (Option.rec (motive:=fun _=>O) .fail (fun a=>Bool.rec (motive:=fun _=>O) .fail (k.c ck (s.s t (.ptr S.next 0)) d ⟨Nat.succ S.next,S.mem.set S.next (some (.box (Ng a)))⟩) (eF a)) ((opG E.G x).g t)) _
   rw[G5]
   cases hx:A6 E.G t x with
   |none=>exact .inl rfl
   |some a =>
    show Rf (Bool.rec (motive:=fun _=>O) .fail (k.c ck (s.s t (.ptr S.next 0)) d ⟨Nat.succ S.next,S.mem.set S.next (some (.box (Ng a)))⟩) (eF a)) _
    rw[kK,Rb]
    cases hn:a.noTup with
    |false=>exact .inl rfl
    |true =>
     refine .inr ?_;simp only[Sh,Bg,ho,hx,if_pos hn,Oz hs];rfl
  ·rename_i c ho
   have fnc:∀(g:AV) (l:List AV),(∃x,c.callee=.value x∧A6 E.G t x=some g)→C9 (A6 E.G t) c.args.toList=some l→Rf (gM s k ck t d S l g) (J5 k.c ck (Sh E ck n o ⟨t,d⟩ S)):=by
    rintro g l ⟨x,hc,hx⟩ hl;unfold gM
    split
    ·rename_i f first caps
     cases hF:E.F f with
     |none =>
      have:ck f (first ++ l ++ caps) S=.fail:=by
       cases hr:ck f (first ++ l ++ caps) S with
       |fail=>rfl
       |ret a S'=>have:=hck f (first ++ l ++ caps) S (by rw[hr];exact fun e=>by cases e);rw[hF]at this;cases this
       |pan a S'=>have:=hck f (first ++ l ++ caps) S (by rw[hr];exact fun e=>by cases e);rw[hF]at this;cases this
      rw[this];exact .inl rfl
     |some fn =>
      refine .inr ?_;rw[retX_ok hs];simp only[Sh,Bg,ho,Ct,hc,hx,hl,hF]
    ·exact .inl rfl
   split
   ·rename_i f hc
    show Rf (Option.rec (motive:=fun _=>O) .fail (fun l=>retX s k ck t d (ck f l S)) (mJ (c.args.toList.map (opG E.G)) t)) _
    rw[gT]
    cases hl:C9 (A6 E.G t) c.args.toList with
    |none=>exact .inl rfl
    |some l =>
     have:=fnc (.fn (.func f) [] []) l ⟨_,hc,rfl⟩ hl
     simpa[gM]using this
   ·rename_i x hc hne
    show Rf (Option.rec (motive:=fun _=>O) .fail (fun a=>Option.rec (motive:=fun _=>O) .fail (fun l=>gM s k ck t d S l a) (mJ (c.args.toList.map (opG E.G)) t)) ((opG E.G x).g t)) _
    rw[gT,G5]
    cases hx:A6 E.G t x with
    |none=>exact .inl rfl
    |some g =>
     cases hl:C9 (A6 E.G t) c.args.toList with
     |none=>exact .inl rfl
     |some l=>exact fnc g l ⟨x,hne,hx⟩ hl
   ·exact slow
  ·exact slow
def cV(s:SB)(k:Bx):Bx:=⟨fun ck t d S=>k.c ck (s.s t (.tup [])) d S⟩
def My(a:AV):Bool:=PV.rec (motive:=fun _=>Bool) (fun _ _=>false) (fun _=>false) false (fun _ _ _ _=>false) (fun _=>false) (fun _=>true) false (fun _ _ _ _=>false) a.pv
def sameB(x y:Bool):Bool:=Bool.rec (motive:=fun _=>Bool) (notR y) y x
def oP(want:Bool)(x y:Bx)(a:AV):Bx:=SV.rec (motive:=fun _=>Bx) (fun b=>Bool.rec (motive:=fun _=>Bx) y x (sameB b want)) (fun _ _=>N9) (fun _=>N9) (Bool.rec (motive:=fun _=>Bx) N9 y (My a)) a.sv
def guardB(g:GB)(want:Bool)(x y:Bx):Bx:=⟨fun ck t d S=>Option.rec (motive:=fun _=>O) .fail (fun a=>(oP want x y a).c ck t d S) (g.g t)⟩
def opB(E:Env)(n:Nat)(ops:Array Oper)(o:Oper)(k:Bx):Bx:=match dstS n o.dst with
 |none=>N9
 |some s=>match o.guard with
  |none=>gB E o s k
  |some (j,want)=>match (ops[j]?).bind (·.dst)with
   |none=>cV s k
   |some d=>guardB (oU d) want (gB E o s k) (cV s k)
theorem opB_ok{ops:Array Oper}(hck:CkF E ck):Rf ((opB E n ops o k).c ck t d S) (J5 k.c ck (Fj E ck n ops o ⟨t,d⟩ S)):=by
 unfold opB
 split
 ·exact .inl rfl
 ·rename_i s hs
  have skip:(cV s k).c ck t d S=J5 k.c ck (M9 n ⟨t,d⟩ o.dst (.tup []) S):=by rw[Oz hs];rfl
  have core:=coreB_ok (E:=E) (n:=n) (o:=o) (k:=k) (t:=t) (d:=d) (S:=S) hck hs
  split
  ·rename_i hg
   have:Fj E ck n ops o ⟨t,d⟩ S=Sh E ck n o ⟨t,d⟩ S:=by unfold Fj Bc;rw[hg];rfl
   rw[this];exact core
  ·rename_i j want hg
   split
   ·rename_i hj
    have:Fj E ck n ops o ⟨t,d⟩ S=M9 n ⟨t,d⟩ o.dst (.tup []) S:=by unfold Fj Bc;rw[hg];simp only[hj]
    rw[this];exact .inr skip
   ·rename_i d0 hj
    show Rf (Option.rec (motive:=fun _=>O) .fail (fun a=>(oP want (gB E o s k) (cV s k) a).c ck t d S) ((oU d0).g t)) _
    rw[Xh]
    cases hx:t.get d0 with
    |none=>exact .inl rfl
    |some a =>
     show Rf ((oP want (gB E o s k) (cV s k) a).c ck t d S) _
     unfold oP
     cases hv:a.sv with
     |b b =>
      have ha:=sv_b hv;subst ha;have hw:Bc ops o t=some (b == want):=by unfold Bc;rw[hg];simp only[hj,hx]
      show Rf ((Bool.rec (motive:=fun _=>Bx) (cV s k) (gB E o s k) (sameB b want)).c ck t d S) _
      have hb:sameB b want=(b == want):=by cases b <;> cases want <;> rfl
      rw[hb]
      cases hbw:(b == want)with
      |false =>
       have:Fj E ck n ops o ⟨t,d⟩ S=M9 n ⟨t,d⟩ o.dst (.tup []) S:=by unfold Fj;simp only[hw,hbw]
       rw[this];exact .inr skip
      |true =>
       have:Fj E ck n ops o ⟨t,d⟩ S=Sh E ck n o ⟨t,d⟩ S:=by unfold Fj;simp only[hw,hbw];rfl
       rw[this];exact core
     |i=>exact .inl rfl
     |s=>exact .inl rfl
     |no =>
      show Rf ((Bool.rec (motive:=fun _=>Bx) N9 (cV s k) (My a)).c ck t d S) _
      cases hp:a.pv with
      |t vs =>
       have:My a=true:=by unfold My;rw[hp]
       rw[this];have ha:=pv_t hp;subst ha;have hw:Bc ops o t=some false:=by unfold Bc;rw[hg];simp only[hj,hx]
       have:Fj E ck n ops o ⟨t,d⟩ S=M9 n ⟨t,d⟩ o.dst (.tup []) S:=by unfold Fj;simp only[hw]
       rw[this];exact .inr skip
      |p =>
       have:My a=false:=by unfold My;rw[hp]
       rw[this];exact .inl rfl
      |e =>
       have:My a=false:=by unfold My;rw[hp]
       rw[this];exact .inl rfl
      |n =>
       have:My a=false:=by unfold My;rw[hp]
       rw[this];exact .inl rfl
      |l =>
       have:My a=false:=by unfold My;rw[hp]
       rw[this];exact .inl rfl
      |a =>
       have:My a=false:=by unfold My;rw[hp]
       rw[this];exact .inl rfl
      |no =>
       have:My a=false:=by unfold My;rw[hp]
       rw[this];exact .inl rfl
      |w =>
       have:My a=false:=by unfold My;rw[hp]
       rw[this];exact .inl rfl
def opsB(E:Env)(n:Nat)(ops:Array Oper)(l:List Oper):Bx→Bx:=List.rec (motive:=fun _=>Bx→Bx) (fun k=>k) (fun o _ ih k=>opB E n ops o (ih k)) l
end
theorem opsB_ok{E:Env}{n:Nat}{ops:Array Oper}{ck:Dk}(hck:CkF E ck)(k:Bx):∀(l:List Oper) (t:T AV) (d:List Dfr) (S:St),Rf ((opsB E n ops l k).c ck t d S) (J5 k.c ck (dB E ck n ops l ⟨t,d⟩ S))
 | [],t,d,S=>.inr rfl
 |o :: r,t,d,S=>by
  have h:=opB_ok (E:=E) (n:=n) (o:=o) (ops:=ops) (k:=opsB E n ops r k) (t:=t) (d:=d) (S:=S) hck
  show Rf ((opB E n ops o (opsB E n ops r k)).c ck t d S) _
  rcases h with h |h
  ·exact .inl h
  ·rw[h]
   unfold dB
   cases Fj E ck n ops o ⟨t,d⟩ S with
   |fail=>exact .inl rfl
   |out e f' S' =>
    cases e with
    |normal=>exact opsB_ok hck k r f'.tmps f'.dfr S'
    |exit i=>exact .inr rfl
    |ret=>exact .inr rfl
    |pan a=>exact .inr rfl
def re1(k:Bx)(ck:Dk)(t:T AV)(d:List Dfr)(S:St)(b a:Option AV):O:=Option.rec (motive:=fun _=>O) .fail (fun b=>Option.rec (motive:=fun _=>O) .fail (fun a=>Bool.rec (motive:=fun _=>O) .fail (k.c ck t d S) (D1 b a)) a) b
def reB(E:Env)(ops:Array Oper)(o:Oper)(k:Bx):Bx:=match o.guard,o.dst,Gc o with
 |none,some d0,true=>⟨fun ck t d S=>re1 k ck t d S ((oU d0).g t) ((qQ E o).v t S)⟩
 |_,_,_=>⟨fun ck t d S=>Bool.rec (motive:=fun _=>O) .fail (k.c ck t d S) (Ez E ops o t S)⟩
theorem reB_ok{E:Env}{ops:Array Oper}{o:Oper}{k:Bx}{ck:Dk}{t:T AV}{d:List Dfr}{S:St}:Rf ((reB E ops o k).c ck t d S) (if Ez E ops o t S then k.c ck t d S else .fail):=by
 have slow:Rf (Bool.rec (motive:=fun _=>O) .fail (k.c ck t d S) (Ez E ops o t S)) (if Ez E ops o t S then k.c ck t d S else .fail):=by
  cases Ez E ops o t S <;> exact .inr rfl
 unfold reB
 split
 ·rename_i d0 hg hd hl
  show Rf (re1 k ck t d S ((oU d0).g t) ((qQ E o).v t S)) _
  rw[Xh]
  cases hb:t.get d0 with
  |none=>exact .inl rfl
  |some b =>
   cases hv:(qQ E o).v t S with
   |none=>exact .inl rfl
   |some a =>
    have h1:=valV_ok hl t S a hv;have h2:Fq E ops o t S=some a:=by unfold Fq Bc;rw[hg];simp only[h1]
    have h3:Ez E ops o t S=D1 b a:=by unfold Ez;rw[h2,hd];simp only[hb]
    rw[h3]
    show Rf (Bool.rec (motive:=fun _=>O) .fail (k.c ck t d S) (D1 b a)) _
    cases D1 b a <;> exact .inr rfl
 ·exact slow
def rsB(E:Env)(n:Nat)(ops:Array Oper)(l:List RS):Bx→Bx:=List.rec (motive:=fun _=>Bx→Bx) (fun k=>k) (fun s _ ih k=>RS.rec (motive:=fun _=>Bx) (fun o=>opB E n ops o (ih k)) (fun o=>reB E ops o (ih k)) s) l
theorem Vx{E:Env}{n:Nat}{ops:Array Oper}{ck:Dk}(hck:CkF E ck)(k:Bx):∀(l:List RS) (t:T AV) (d:List Dfr) (S:St),Rf ((rsB E n ops l k).c ck t d S) (J5 k.c ck (Fm E ck n ops l ⟨t,d⟩ S))
 | [],t,d,S=>.inr rfl
 |.op o :: r,t,d,S=>by
  have h:=opB_ok (E:=E) (n:=n) (o:=o) (ops:=ops) (k:=rsB E n ops r k) (t:=t) (d:=d) (S:=S) hck
  show Rf ((opB E n ops o (rsB E n ops r k)).c ck t d S) _
  rcases h with h |h
  ·exact .inl h
  ·rw[h]
   have e:Fm E ck n ops (.op o :: r) ⟨t,d⟩ S=match Fj E ck n ops o ⟨t,d⟩ S with
    |.out .normal f' S'=>Fm E ck n ops r f' S'
    |r=>r:=rfl
   rw[e]
   cases Fj E ck n ops o ⟨t,d⟩ S with
   |fail=>exact .inl rfl
   |out e f' S' =>
    cases e with
    |normal=>exact Vx hck k r f'.tmps f'.dfr S'
    |exit i=>exact .inr rfl
    |ret=>exact .inr rfl
    |pan a=>exact .inr rfl
 |.re o :: r,t,d,S=>by
  have h:=reB_ok (E:=E) (o:=o) (ops:=ops) (k:=rsB E n ops r k) (ck:=ck) (t:=t) (d:=d) (S:=S)
  show Rf ((reB E ops o (rsB E n ops r k)).c ck t d S) _
  have e:Fm E ck n ops (.re o :: r) ⟨t,d⟩ S=if Ez E ops o t S then Fm E ck n ops r ⟨t,d⟩ S else .fail:=rfl
  rw[e];rcases h with h |h
  ·exact .inl h
  ·rw[h]
   cases Ez E ops o t S with
   |false=>exact .inl rfl
   |true=>exact Vx hck k r t d S
def drawS(E:Env)(n:Nat)(ops:Array Oper)(k:Bx):Bx:=⟨fun ck t d S=>J5 k.c ck (V4 E ck n ops ⟨t,d⟩ S)⟩
def Un(l:List RS):Bool:=l.all fun s=>match s with
 |.op o=>Gc o
 |.re _=>true
def fixB(E:Env)(n:Nat)(ops:Array Oper)(l:List RS)(k:Bx):Bx:=⟨fun ck t d S=>J5 k.c ck (Tm ⟨Gf ops.toList t,d⟩ ((rsB E n ops l N0).c ck t d S))⟩
def drawO(E:Env)(n:Nat)(ops:Array Oper)(k:Bx):Bx :=
 let ms:=bm ops.toList []
 let order:=Kp ops ms ops.size (List.range ops.size) 0
 if Rp ops ms order then(match Lm ops ms order []with
  |some rs=>if Un rs then rsB E n ops rs k else fixB E n ops rs k
  |none=>drawS E n ops k)else drawS E n ops k
def drawF(E:Env)(n:Nat)(ops:Array Oper)(x:FlP)(k:Bx):Bx:=match Re ops x with
 |some rs=>if x.d<n then⟨fun ck t d S=>J5 k.c ck (Tm ⟨Gf ops.toList t,d⟩ ((rsB E n ops rs N0).c ck (T.set t x.d none) d S))⟩else N9
 |none=>N9
def zqOp{α:Type}(e:α→α→Bool):Option α→Option α→Bool
 |none,none=>true
 |some a,some b=>e a b
 |_,_=>false
def zqT{α:Type}(e:α→α→Bool):T α→T α→Bool
 |.leaf,.leaf=>true
 |.node v a b c d,.node v' a' b' c' d'=>zqOp e v v' && (zqT e a a' && (zqT e b b' && (zqT e c c' && zqT e d d')))
 |_,_=>false
theorem zqOp_eq{α:Type}{e:α→α→Bool}(he:∀a b,e a b=true→a=b){x y:Option α}(h:zqOp e x y=true):x=y:=by
 cases x <;> cases y <;> first |rfl | (cases h;done) |exact congrArg some (he _ _ h)
theorem Yc{α:Type}{e:α→α→Bool}(he:∀a b,e a b=true→a=b):∀{x y:T α},zqT e x y=true→x=y
 |.leaf,.leaf,_=>rfl
 |.leaf,.node ..,h=>by cases h
 |.node ..,.leaf,h=>by cases h
 |.node v a b c d,.node v' a' b' c' d',h=>by
  unfold zqT at h;simp only[Ja2]at h;obtain⟨h0,h1,h2,h3,h4⟩:=h;rw[zqOp_eq he h0,Yc he h1,Yc he h2,Yc he h3,Yc he h4]
def zqM:List (Value × AV)→List (Value × AV)→Bool
 | [],[]=>true
 |a :: r,b :: s=>eqS a.1 b.1 && (D1 a.2 b.2 && zqM r s)
 |_,_=>false
theorem zqM_eq:∀{x y:List (Value × AV)},zqM x y=true→x=y
 | [],[],_=>rfl
 | [],_ :: _,h=>by cases h
 |_ :: _,[],h=>by cases h
 | (a,b) :: r,(c,d) :: s,h=>by
  unfold zqM at h;simp only[Ja2]at h;rw[eqS_eq h.1,U1 _ _ h.2.1,zqM_eq h.2.2]
def zqC:Cell→Cell→Bool
 |.box a,.box b=>Gm a b
 |.tip a,.tip b=>Nat.beq a b
 |.mp a,.mp b=>zqM a b
 |_,_=>false
theorem zqC_eq(a b:Cell)(h:zqC a b=true):a=b:=by
 cases a <;> cases b <;> first | (cases h;done) |exact congrArg _ (Qb _ _ h) |exact congrArg _ (Jc1 h) |exact congrArg _ (zqM_eq h)
def zqN:Ex→Bool
 |.normal=>true
 |_=>false
def zqO:O→O→Bool
 |.out e f S,.out e' f' S'=>zqN e && (zqN e' && (zqT D1 f.tmps f'.tmps && (f.dfr.isEmpty && (f'.dfr.isEmpty && (Nat.beq S.next S'.next && zqT zqC S.mem S'.mem)))))
 |_,_=>false
theorem zqO_eq{a b:O}(h:zqO a b=true):∃f S,a=.out .normal f S∧b=a:=by
 cases a with
 |fail=>cases b <;> cases h
 |out e f S =>
 cases b with
 |fail=>cases h
 |out e' f' S' =>
  unfold zqO at h;simp only[Ja2]at h;obtain⟨h1,h2,h3,h4,h5,h6,h7⟩:=h;obtain⟨t,d⟩:=f;obtain⟨t',d'⟩:=f';obtain⟨n,m⟩:=S;obtain⟨n',m'⟩:=S';have e1:t=t':=Yc U1 h3;have e2:n=n':=Jc1 h6;have e3:m=m':=Yc zqC_eq h7;subst e1;subst e2;subst e3
  cases d with
  |cons _ _=>cases h4
  |nil =>
  cases d' with
  |cons _ _=>cases h5
  |nil =>
  cases e <;> first | (cases h1;done) | (cases e' <;> first | (cases h2;done) |exact⟨_,_,rfl,rfl⟩)
def drawT(E:Env)(n:Nat)(ops:Array Oper)(k:Bx):Bx :=
 let ms:=bm ops.toList []
 let order:=Kp ops ms ops.size (List.range ops.size) 0
 match Lm ops ms order [],Lm ops ms (jC order) []with
 |some r1,some r2=>⟨fun ck t d S=>(fun a=>Bool.rec (motive:=fun _=>O) .fail (J5 k.c ck a) (zqO a ((rsB E n ops r2 N0).c ck t d S))) ((rsB E n ops r1 N0).c ck t d S)⟩
 |_,_=>N9
def Xq(E:Env)(n:Nat)(ops:Array Oper)(k:Bx):Bx:=match Ol E.P ops with
 |some x=>drawF E n ops x k
 |none=>Bool.rec (motive:=fun _=>Bx) (drawO E n ops k) (drawT E n ops k) (Vh ops)
theorem Sb(ck:Dk)(r:O):J5 N0.c ck r=r:=by
 cases r with
 |fail=>rfl
 |out e f S=>cases e <;> rfl
theorem Su{E:Env}{ck:Dk}{n:Nat}{ops:Array Oper}{fb:Fr}:∀(l:List RS) (f:Fr) (S:St),Un l=true→Tm fb (Fm E ck n ops l f S)=Fm E ck n ops l f S
 | [],f,S,h=>rfl
 |.op o :: r,f,S,h=>by
  unfold Un at h;rw[List.all_cons,Ja2]at h
  have e:Fm E ck n ops (.op o :: r) f S=match Fj E ck n ops o f S with
    |.out .normal f' S'=>Fm E ck n ops r f' S'
    |r=>r:=rfl
  rw[e,Qq,O8 h.1]
  cases Fq E ops o f.tmps S with
  |none=>rfl
  |some a =>
   simp only;rw[Ov]
   cases okD n o.dst with
   |false=>rfl
   |true=>exact Su r _ S h.2
 |.re o :: r,f,S,h=>by
  unfold Un at h;rw[List.all_cons,Ja2]at h;have e:Fm E ck n ops (.re o :: r) f S=if Ez E ops o f.tmps S then Fm E ck n ops r f S else .fail:=rfl
  rw[e]
  cases Ez E ops o f.tmps S with
  |false=>rfl
  |true=>exact Su r f S h.2
theorem drawO_ok{E:Env}{n:Nat}{ops:Array Oper}{ck:Dk}(hck:CkF E ck)(k:Bx)(t:T AV)(d:List Dfr)(S:St):Rf ((drawO E n ops k).c ck t d S) (J5 k.c ck (H1 E ck n ops ⟨t,d⟩ S)):=by
 have slow:Rf ((drawS E n ops k).c ck t d S) (J5 k.c ck (H1 E ck n ops ⟨t,d⟩ S)):=by
  refine .inr ?_
  show J5 k.c ck (V4 E ck n ops ⟨t,d⟩ S)=_
  rw[Zb]
 unfold drawO;simp only
 split
 ·rename_i hst
  split
  ·rename_i rs hrs
   have e:Fm E ck n ops rs ⟨t,d⟩ S=.fail∨H1 E ck n ops ⟨t,d⟩ S=Tm ⟨Gf ops.toList t,d⟩ (Fm E ck n ops rs ⟨t,d⟩ S):=by
    unfold H1;simp only;rw[if_pos hst];exact Jb _ rs _ _ [] hrs (fun _ h=>absurd h Ja7)
   split
   ·rename_i hlk
    have h:=Vx (E:=E) (n:=n) (ops:=ops) hck k rs t d S;rcases h with h |h
    ·exact .inl h
    ·rw[h]
     rcases e with e |e
     ·rw[e];exact .inl rfl
     ·rw[e,Su rs _ _ hlk];exact .inr rfl
   ·have h:=Vx (E:=E) (n:=n) (ops:=ops) hck N0 rs t d S
    rw[Sb]at h
    show Rf (J5 k.c ck (Tm ⟨Gf ops.toList t,d⟩ ((rsB E n ops rs N0).c ck t d S))) _
    rcases h with h |h
    ·rw[h];exact .inl rfl
    ·rw[h]
     rcases e with e |e
     ·rw[e];exact .inl rfl
     ·rw[e];exact .inr rfl
  ·exact slow
 ·exact slow
theorem drawT_ok{E:Env}{n:Nat}{ops:Array Oper}{ck:Dk}(hck:CkF E ck)(hx:Ol E.P ops=none)(htw:Vh ops=true)(k:Bx)(t:T AV)(d:List Dfr)(S:St):Rf ((drawT E n ops k).c ck t d S) (J5 k.c ck (Bb E ck n ops ⟨t,d⟩ S)):=by
 have e2:Bb E ck n ops ⟨t,d⟩ S=Ob E ck n ops ⟨t,d⟩ S:=by unfold Bb;rw[hx];simp only[htw,if_true]
 rw[e2];unfold drawT;simp only
 split
 ·rename_i r1 r2 h1 h2
  have hA:=Vx (E:=E) (n:=n) (ops:=ops) hck N0 r1 t d S;have hB:=Vx (E:=E) (n:=n) (ops:=ops) hck N0 r2 t d S;rw[Sb]at hA hB
  show Rf (Bool.rec (motive:=fun _=>O) .fail (J5 k.c ck ((rsB E n ops r1 N0).c ck t d S)) (zqO ((rsB E n ops r1 N0).c ck t d S) ((rsB E n ops r2 N0).c ck t d S))) _
  generalize (rsB E n ops r1 N0).c ck t d S=A at hA ⊢;generalize (rsB E n ops r2 N0).c ck t d S=B at hB ⊢
  cases he:zqO A B with
  |false=>exact .inl rfl
  |true =>
   obtain⟨f',S',rfl,rfl⟩:=zqO_eq he;rcases hA with hA |hA
   ·cases hA
   rcases hB with hB |hB
   ·cases hB
   have k1:=Jb (E:=E) (ck:=ck) (n:=n) (fb:=⟨Gf ops.toList t,d⟩) _ r1 ⟨t,d⟩ S [] h1 (fun _ h=>absurd h Ja7)
   have k2:=Jb (E:=E) (ck:=ck) (n:=n) (fb:=⟨Gf ops.toList t,d⟩) _ r2 ⟨t,d⟩ S [] h2 (fun _ h=>absurd h Ja7)
   rw[← hA]at k1;rw[← hB]at k2;rcases k1 with k1 |k1
   ·cases k1
   rcases k2 with k2 |k2
   ·cases k2
   have e3:Ob E ck n ops ⟨t,d⟩ S=.out .normal f' S':=by
    unfold Ob;simp only;rw[k1,k2,if_pos rfl];rfl
   rw[e3];exact .inr rfl
 ·exact .inl rfl
theorem drawB_ok{E:Env}{n:Nat}{ops:Array Oper}{ck:Dk}(hck:CkF E ck)(k:Bx)(t:T AV)(d:List Dfr)(S:St):Rf ((Xq E n ops k).c ck t d S) (J5 k.c ck (Bb E ck n ops ⟨t,d⟩ S)):=by
 cases hx:Ol E.P ops with
 |some x =>
  have e1:Xq E n ops k=drawF E n ops x k:=by unfold Xq;rw[hx]
  have e2:Bb E ck n ops ⟨t,d⟩ S=R9 E x ck n ops ⟨t,d⟩ S:=by unfold Bb;rw[hx]
  rw[e1,e2];unfold drawF R9
  cases hrs:Re ops x with
  |none=>exact .inl rfl
  |some rs =>
   simp only
   split
   ·have h:=Vx (E:=E) (n:=n) (ops:=ops) hck N0 rs (T.set t x.d none) d S
    rw[Sb]at h
    show Rf (J5 k.c ck (Tm ⟨Gf ops.toList t,d⟩ ((rsB E n ops rs N0).c ck (T.set t x.d none) d S))) _
    rcases h with h |h
    ·rw[h];exact .inl rfl
    ·rw[h];exact .inr rfl
   ·exact .inl rfl
 |none =>
   cases htw:Vh ops with
   |false =>
    have e1:Xq E n ops k=drawO E n ops k:=by unfold Xq;rw[hx];simp only[htw]
    rw[e1];have e2:Bb E ck n ops ⟨t,d⟩ S=H1 E ck n ops ⟨t,d⟩ S:=by unfold Bb;rw[hx];simp only[htw,Bool.false_eq_true,if_false]
    rw[e2];exact drawO_ok hck k t d S
   |true =>
    have e1:Xq E n ops k=drawT E n ops k:=by unfold Xq;rw[hx];simp only[htw]
    rw[e1];exact drawT_ok hck hx htw k t d S
def Uw(E:Env):Lj:=fun ck n ops f S=>match Ol E.P ops with
 |some x=>R9 E x ck n ops f S
 |none=>if Vh ops=true then Ob E ck n ops f S else V4 E ck n ops f S
theorem pJ(E:Env):Uw E=Bb E:=by
 unfold Uw;rw[Zb];rfl
end Go.Ax
noncomputable section
namespace Go.Ax
open Go.RowKit
theorem nI{E:Env}{D:Lj}{callK:Dk}{rec:Nat→Code→Fr→St→O}(hE:E.Ok)(hD:Sg E D)(hC:∀base w0,Nm E base w0 callK)(hR:CodeOk E rec):CodeOk E (Dt E D rec callK):=by
 have loop:∀(base:Nat) (w0:World) (Q:Exit→Act→World→Prop) (n:Nat) (c:Code) (γ:Gh) (S:St) (w:World) (f:Fr) (act:Act),SR base w0 γ S w→AR γ w n f act→GR γ w E.G →
   L8 base w0 n γ S w Q (Dt E D rec callK n (.loop c) f S)→LWp E.P c Q act w:=by
  intro base w0 Q n c γ S w f act hS ha hg hH;refine LWp.round (hR.code base w0 _ n c γ S w f act hS ha hg ?_);unfold Dt at hH;simp only at hH
  split at hH
  ·rename_i f' S' hr
   rw[hr];intro γ' act' w' k1 k2 k3;exact hR.loop base w0 Q n c γ' S' w' f' act' k1 k3 (hg.mono k2.ev) (hH.later k2)
  ·rename_i r hr
   cases hst:rec n c f S with
   |fail=>rw[hst]at hH;exact hH.elim
   |out e f' S' =>
    rw[hst]at hH;intro γ' act' w' k1 k2 k3;have:=hH γ' act' w' k1 k2 k3
    cases e with
    |normal=>exact absurd hst (hr f' S')
    |exit id=>exact this
    |ret=>exact this
    |pan a=>exact this
 refine⟨fun base w0 Q n c γ S w f act hS ha hg hH=>?_,loop⟩
 cases c with
 |skip=>exact wp_skip (hH γ act w hS (.refl _ _ _) ha)
 |label l=>exact wp_label (hH γ act w hS (.refl _ _ _) ha)
 |region id ops draw =>
  cases draw with
  |false=>exact wp_region_list (Vv hE (hC base w0) _ γ S w f act hS ha hg hH)
  |true=>exact hD base w0 Q _ (hC base w0) n id ops γ S w f act hS ha hg hH
 |seq x y =>
  refine wp_seq (hR.code base w0 _ n x γ S w f act hS ha hg ?_);unfold Dt at hH;simp only at hH
  split at hH
  ·rename_i f' S' hr
   rw[hr];intro γ' act' w' k1 k2 k3;exact hR.code base w0 Q n y γ' S' w' f' act' k1 k3 (hg.mono k2.ev) (hH.later k2)
  ·rename_i r hr
   cases hst:rec n x f S with
   |fail=>rw[hst]at hH;exact hH.elim
   |out e f' S' =>
    rw[hst]at hH;intro γ' act' w' k1 k2 k3;have:=hH γ' act' w' k1 k2 k3
    cases e with
    |normal=>exact absurd hst (hr f' S')
    |exit id=>exact this
    |ret=>exact this
    |pan a=>exact this
 |cond c x y =>
  unfold Dt at hH;simp only at hH
  split at hH
  ·rename_i hc
   have hv:=Ef ha.tmps hg hc;generalize hq:act.eval c=q at hv;cases hv;exact wp_cond_true hq (hR.code base w0 Q n x γ S w f act hS ha hg hH)
  ·rename_i hc
   have hv:=Ef ha.tmps hg hc;generalize hq:act.eval c=q at hv;cases hv;exact wp_cond_false hq (hR.code base w0 Q n y γ S w f act hS ha hg hH)
  ·exact hH.elim
 |block id c =>
  refine wp_block (hR.code base w0 _ n c γ S w f act hS ha hg ?_);unfold Dt at hH;simp only at hH
  split at hH
  ·rename_i id' f' S' hr
   rw[hr];intro γ' act' w' k1 k2 k3
   show if id' = id then Q .normal act' w' else Q (.exit id') act' w'
   split
   ·rename_i he
    rw[if_pos he]at hH;exact hH γ' act' w' k1 k2 k3
   ·rename_i he
    rw[if_neg he]at hH;exact hH γ' act' w' k1 k2 k3
  ·rename_i r hr
   cases hst:rec n c f S with
   |fail=>rw[hst]at hH;exact hH.elim
   |out e f' S' =>
    rw[hst]at hH;intro γ' act' w' k1 k2 k3;have:=hH γ' act' w' k1 k2 k3
    cases e with
    |normal=>exact this
    |exit id'=>exact absurd hst (hr id' f' S')
    |ret=>exact this
    |pan a=>exact this
 |loop c=>exact(loop base w0 Q n c γ S w f act hS ha hg hH).loop
 |exit id=>exact wp_exit (hH γ act w hS (.refl _ _ _) ha)
 |ret=>exact wp_ret (hH γ act w hS (.refl _ _ _) ha)
 |rangeFunc=>exact hH.elim
 |scope=>exact hH.elim
 |goto=>exact hH.elim
 |refuse=>exact hH.elim
def Ie(E:Env)(D:Lj)(ck:Dk):Nat→Nat→Code→Fr→St→O :=
 Nat.rec (fun _ _ _ _=>.fail) (fun _ ih=>Dt E D ih ck)
theorem Vw{E:Env}{D:Lj}{ck:Dk}(hE:E.Ok)(hD:Sg E D)(hC:∀base w0,Nm E base w0 ck):∀m,CodeOk E (Ie E D ck m)
 |0=>⟨fun _ _ _ _ _ _ _ _ _ _ _ _ _ h=>h.elim,fun _ _ _ _ _ _ _ _ _ _ _ _ _ h=>h.elim⟩
 |m+1=>nI hE hD hC (Vw hE hD hC m)
theorem jO{E:Env}{D:Lj}{ck:Dk}:∀(m n:Nat) (c:Code) (f:Fr) (S:St),Ie E D ck m n c f S≠.fail→Ie E D ck (m+1) n c f S=Ie E D ck m n c f S
 |0,n,c,f,S,h=>absurd rfl h
 |m+1,n,c,f,S,h=>by
  have ih:=jO (E:=E) (D:=D) (ck:=ck) m;have e1:∀m n c f S,Ie E D ck (m+1) n c f S=Dt E D (Ie E D ck m) ck n c f S:=fun _ _ _ _ _=>rfl
  rw[e1]at h ⊢;rw[e1 m];have sub:∀(c:Code) (f:Fr) (S:St) (r:O),Ie E D ck m n c f S=r→r≠.fail→Ie E D ck (m+1) n c f S=r:=fun c f S r hr hne=>(ih n c f S (by rw[hr];exact hne)).trans hr
  cases c with
  |seq a b =>
   simp only[Dt]at h ⊢
   cases hr:Ie E D ck m n a f S with
   |fail=>rw[hr]at h;exact absurd rfl h
   |out e f' S' =>
    rw[sub _ _ _ _ hr (fun e=>by cases e)]
    rw[hr]at h
    cases e with
    |normal=>exact ih n b f' S' h
    |_=>rfl
  |loop a =>
   simp only[Dt]at h ⊢
   cases hr:Ie E D ck m n a f S with
   |fail=>rw[hr]at h;exact absurd rfl h
   |out e f' S' =>
    rw[sub _ _ _ _ hr (fun e=>by cases e)]
    rw[hr]at h
    cases e with
    |normal=>exact ih n (.loop a) f' S' h
    |_=>rfl
  |block id a =>
   simp only[Dt]at h ⊢
   cases hr:Ie E D ck m n a f S with
   |fail=>rw[hr]at h;exact absurd rfl h
   |out e f' S'=>rw[sub _ _ _ _ hr (fun e=>by cases e)]
  |cond x a b =>
   simp only[Dt]at h ⊢
   split at h
   ·exact ih n a f S h
   ·exact ih n b f S h
   ·exact absurd rfl h
  |region id ops dr=>cases dr <;> rfl
  |_=>rfl
theorem aQ{E:Env}{D:Lj}{ck:Dk}{m m' n:Nat}{c:Code}{f:Fr}{S:St}(hm:m≤m')(h:Ie E D ck m n c f S≠.fail):Ie E D ck m' n c f S=Ie E D ck m n c f S:=by
 induction hm with
 |refl=>rfl
 |step hm ih=>rw[jO _ _ _ _ _ (by rw[ih];exact h),ih]
def Rx(k:Option Bx):Bx:=Option.rec (motive:=fun _=>Bx) N0 (fun k=>k) k
def thenB(x k:Bx):Bx:=⟨fun ck t d S=>J5 k.c ck (x.c ck t d S)⟩
def jB(x:Bx)(k:Option Bx):Bx:=Option.rec (motive:=fun _=>Bx) x (fun k=>thenB x k) k
def exitB(id:Nat):Bx:=⟨fun _ t d S=>.out (.exit id) ⟨t,d⟩ S⟩
def retB:Bx:=⟨fun _ t d S=>.out .ret ⟨t,d⟩ S⟩
def sel1(a b:Bx)(v:AV):Bx:=SV.rec (motive:=fun _=>Bx) (fun c=>Bool.rec (motive:=fun _=>Bx) b a c) (fun _ _=>N9) (fun _=>N9) N9 v.sv
def condB(g:GB)(a b:Bx):Bx:=⟨fun ck t d S=>Option.rec (motive:=fun _=>O) .fail (fun v=>(sel1 a b v).c ck t d S) (g.g t)⟩
def blkX(id:Nat)(r:O):O:=O.rec (motive:=fun _=>O) (fun e f S=>Ex.rec (motive:=fun _=>O) (.out .normal f S) (fun i=>Bool.rec (motive:=fun _=>O) (.out (.exit i) f S) (.out .normal f S) (Nat.beq i id)) (.out .ret f S) (fun a=>.out (.pan a) f S) e) .fail r
def blockB(id:Nat)(x:Bx):Bx:=⟨fun ck t d S=>blkX id (x.c ck t d S)⟩
def loopX(ih:T AV→List Dfr→St→O)(r:O):O:=O.rec (motive:=fun _=>O) (fun e f S=>Ex.rec (motive:=fun _=>O) (ih f.tmps f.dfr S) (fun i=>.out (.exit i) f S) (.out .ret f S) (fun a=>.out (.pan a) f S) e) .fail r
def Zy(x:Bx)(ck:Dk)(j:Nat):T AV→List Dfr→St→O:=Nat.rec (motive:=fun _=>T AV→List Dfr→St→O) (fun _ _ _=>.fail) (fun _ ih t d S=>loopX ih (x.c ck t d S)) j
def uP:Nat:=5000
def loopB(x:Bx):Bx:=⟨fun ck t d S=>Zy x ck uP t d S⟩
theorem loopB_c(x:Bx)(ck:Dk)(t:T AV)(d:List Dfr)(S:St):(loopB x).c ck t d S=Zy x ck uP t d S:=rfl
def Jw(E:Env)(n:Nat)(c:Code):Option Bx→Bx:=Code.rec (motive:=fun _=>Option Bx→Bx)
 (fun k=>Rx k)
 (fun _ ops dr k=>Bool.rec (motive:=fun _=>Bx) (opsB E n ops ops.toList (Rx k)) (Xq E n ops (Rx k)) dr)
 (fun _ _ ia ib k=>ia (some (ib k)))
 (fun x _ _ ia ib k=>jB (condB (opG E.G x) (ia none) (ib none)) k)
 (fun id _ ia k=>jB (blockB id (ia none)) k)
 (fun _ ia k=>jB (loopB (ia none)) k)
 (fun _ _ _ _ _ _ _=>N9)
 (fun id _=>exitB id)
 (fun _ _ _=>N9)
 (fun _ k=>Rx k)
 (fun _ _=>N9)
 (fun _=>retB)
 (fun _ _=>N9) c
def Vo(k:Option Bx)(ck:Dk)(r:O):O:=match k with
 |none=>r
 |some k=>J5 k.c ck r
theorem gD(k:Option Bx)(ck:Dk):Vo k ck .fail=.fail:=by cases k <;> rfl
theorem Xs(k:Option Bx)(ck:Dk)(r:O):J5 (Rx k).c ck r=Vo k ck r:=by
 cases k with
 |none=>exact Sb ck r
 |some k=>rfl
theorem tailB_c(x:Bx)(k:Option Bx)(ck:Dk)(t:T AV)(d:List Dfr)(S:St):(jB x k).c ck t d S=Vo k ck (x.c ck t d S):=by cases k <;> rfl
def COk(E:Env)(n:Nat)(ck:Dk)(c:Code):Prop:=∀(k:Option Bx) (t:T AV) (d:List Dfr) (S:St),(Jw E n c k).c ck t d S=.fail∨∃m,Vo k ck (Ie E (Bb E) ck m n c ⟨t,d⟩ S)=(Jw E n c k).c ck t d S
theorem nD{E:Env}{n:Nat}{ck:Dk}{c:Code}{x:Bx}(h:∀(t:T AV) (d:List Dfr) (S:St),x.c ck t d S=.fail∨∃m,Ie E (Bb E) ck m n c ⟨t,d⟩ S=x.c ck t d S)(k:Option Bx)(t:T AV)(d:List Dfr)(S:St):
  (jB x k).c ck t d S=.fail∨∃m,Vo k ck (Ie E (Bb E) ck m n c ⟨t,d⟩ S)=(jB x k).c ck t d S:=by
 rw[tailB_c];rcases h t d S with h | ⟨m,h⟩
 ·rw[h,gD];exact .inl rfl
 ·exact .inr ⟨m,by rw[h]⟩
theorem P8{E:Env}{n:Nat}{ck:Dk}(hck:CkF E ck):∀c:Code,COk E n ck c
 |.skip=>fun k t d S=>.inr ⟨1,(Xs k ck _).symm⟩
 |.label l=>fun k t d S=>.inr ⟨1,(Xs k ck _).symm⟩
 |.region id ops false=>fun k t d S=>by
  have h:=opsB_ok (E:=E) (n:=n) (ops:=ops) hck (Rx k) ops.toList t d S;rw[Xs]at h
  show(opsB E n ops ops.toList (Rx k)).c ck t d S=.fail∨_
  rcases h with h |h
  ·exact .inl h
  ·exact .inr ⟨1,h.symm⟩
 |.region id ops true=>fun k t d S=>by
  have h:=drawB_ok (E:=E) (n:=n) (ops:=ops) hck (Rx k) t d S;rw[Xs]at h
  show(Xq E n ops (Rx k)).c ck t d S=.fail∨_
  rcases h with h |h
  ·exact .inl h
  ·exact .inr ⟨1,h.symm⟩
 |.seq a b=>fun k t d S=>by
  have ha:=P8 (n:=n) hck a (some (Jw E n b k)) t d S
  show(Jw E n a (some (Jw E n b k))).c ck t d S=.fail∨∃m,_=(Jw E n a (some (Jw E n b k))).c ck t d S
  rcases ha with ha | ⟨m1,ha⟩
  ·exact .inl ha
  ·rw[← ha]
   cases hr:Ie E (Bb E) ck m1 n a ⟨t,d⟩ S with
   |fail=>exact .inl rfl
   |out e f' S' =>
    have hne:Ie E (Bb E) ck m1 n a ⟨t,d⟩ S≠.fail:=by rw[hr];exact fun e=>by cases e
    cases e with
    |normal =>
     have hb:=P8 (n:=n) hck b k f'.tmps f'.dfr S'
     show(Jw E n b k).c ck f'.tmps f'.dfr S' = .fail∨∃m,_=(Jw E n b k).c ck f'.tmps f'.dfr S'
     rcases hb with hb | ⟨m2,hb⟩
     ·exact .inl hb
     ·rw[← hb]
      by_cases hf:Ie E (Bb E) ck m2 n b ⟨f'.tmps,f'.dfr⟩ S' = .fail
      ·rw[hf,gD];exact .inl rfl
      ·refine .inr ⟨max m1 m2+1,?_⟩
       have e1:Ie E (Bb E) ck (max m1 m2+1) n (.seq a b) ⟨t,d⟩ S=Ie E (Bb E) ck m2 n b f' S':=by
        show Dt E (Bb E) (Ie E (Bb E) ck (max m1 m2)) ck n (.seq a b) ⟨t,d⟩ S=_
        simp only[Dt];rw[aQ (Nat.le_max_left m1 m2) hne,hr];exact aQ (Nat.le_max_right m1 m2) hf
       rw[e1]
    |exit i=>refine .inr ⟨m1+1,?_⟩;show Vo k ck (Dt E (Bb E) (Ie E (Bb E) ck m1) ck n (.seq a b) ⟨t,d⟩ S)=_;simp only[Dt,hr];cases k <;> rfl
    |ret=>refine .inr ⟨m1+1,?_⟩;show Vo k ck (Dt E (Bb E) (Ie E (Bb E) ck m1) ck n (.seq a b) ⟨t,d⟩ S)=_;simp only[Dt,hr];cases k <;> rfl
    |pan a=>refine .inr ⟨m1+1,?_⟩;show Vo k ck (Dt E (Bb E) (Ie E (Bb E) ck m1) ck n (.seq _ b) ⟨t,d⟩ S)=_;simp only[Dt,hr];cases k <;> rfl
 |.cond x a b=>nD fun t d S=>by
  have ha:=P8 (n:=n) hck a none t d S;have hb:=P8 (n:=n) hck b none t d S
  show Option.rec (motive:=fun _=>O) .fail (fun v=>(sel1 (Jw E n a none) (Jw E n b none) v).c ck t d S) ((opG E.G x).g t)=.fail∨∃m,_=Option.rec (motive:=fun _=>O) .fail (fun v=>(sel1 (Jw E n a none) (Jw E n b none) v).c ck t d S) ((opG E.G x).g t)
  rw[G5]
  cases hx:A6 E.G t x with
  |none=>exact .inl rfl
  |some v =>
   show(sel1 (Jw E n a none) (Jw E n b none) v).c ck t d S=.fail∨∃m,_=(sel1 (Jw E n a none) (Jw E n b none) v).c ck t d S
   unfold sel1
   cases hv:v.sv with
   |b c =>
    have hvv:=sv_b hv;subst hvv
    cases c with
    |true =>
     show(Jw E n a none).c ck t d S=.fail∨∃m,_=(Jw E n a none).c ck t d S
     rcases ha with ha | ⟨m,ha⟩
     ·exact .inl ha
     ·refine .inr ⟨m+1,?_⟩
      rw[← ha]
      show Dt E (Bb E) (Ie E (Bb E) ck m) ck n (.cond x a b) ⟨t,d⟩ S=_
      simp only[Dt,hx];rfl
    |false =>
     show(Jw E n b none).c ck t d S=.fail∨∃m,_=(Jw E n b none).c ck t d S
     rcases hb with hb | ⟨m,hb⟩
     ·exact .inl hb
     ·refine .inr ⟨m+1,?_⟩
      rw[← hb]
      show Dt E (Bb E) (Ie E (Bb E) ck m) ck n (.cond x a b) ⟨t,d⟩ S=_
      simp only[Dt,hx];rfl
   |i=>exact .inl rfl
   |s=>exact .inl rfl
   |no=>exact .inl rfl
 |.block id a=>nD fun t d S=>by
  have ha:=P8 (n:=n) hck a none t d S
  show blkX id ((Jw E n a none).c ck t d S)=.fail∨∃m,_=blkX id ((Jw E n a none).c ck t d S)
  rcases ha with ha | ⟨m,ha⟩
  ·rw[ha];exact .inl rfl
  ·rw[← ha]
   refine .inr ⟨m+1,?_⟩
   show Dt E (Bb E) (Ie E (Bb E) ck m) ck n (.block id a) ⟨t,d⟩ S=blkX id (Ie E (Bb E) ck m n a ⟨t,d⟩ S)
   simp only[Dt]
   cases Ie E (Bb E) ck m n a ⟨t,d⟩ S with
   |fail=>rfl
   |out e f' S' =>
    cases e with
    |exit i =>
     show(if i=id then O.out .normal f' S' else .out (.exit i) f' S')=Bool.rec (motive:=fun _=>O) (.out (.exit i) f' S') (.out .normal f' S') (Nat.beq i id)
     rw[X3]
     by_cases h:i=id
     ·rw[if_pos h,decide_eq_true h]
     ·rw[if_neg h,decide_eq_false h]
    |_=>rfl
 |.loop a=>nD fun t d S=>by
  have key:∀(j:Nat) (t:T AV) (d:List Dfr) (S:St),Zy (Jw E n a none) ck j t d S=.fail∨∃m,Ie E (Bb E) ck m n (.loop a) ⟨t,d⟩ S=Zy (Jw E n a none) ck j t d S:=by
   intro j
   induction j with
   |zero=>exact fun t d S=>.inl rfl
   |succ j ih =>
    intro t d S;have ha:=P8 (n:=n) hck a none t d S
    show loopX (Zy (Jw E n a none) ck j) ((Jw E n a none).c ck t d S)=.fail∨∃m,_=loopX (Zy (Jw E n a none) ck j) ((Jw E n a none).c ck t d S)
    rcases ha with ha | ⟨m1,ha⟩
    ·rw[ha];exact .inl rfl
    ·rw[← ha]
     have ha2:Vo none ck (Ie E (Bb E) ck m1 n a ⟨t,d⟩ S)=Ie E (Bb E) ck m1 n a ⟨t,d⟩ S:=rfl;rw[ha2]
     cases hr:Ie E (Bb E) ck m1 n a ⟨t,d⟩ S with
     |fail=>exact .inl rfl
     |out e f' S' =>
      have hne:Ie E (Bb E) ck m1 n a ⟨t,d⟩ S≠.fail:=by rw[hr];exact fun e=>by cases e
      cases e with
      |normal =>
       show Zy (Jw E n a none) ck j f'.tmps f'.dfr S' = .fail∨∃m,_=Zy (Jw E n a none) ck j f'.tmps f'.dfr S'
       rcases ih f'.tmps f'.dfr S' with h | ⟨m2,h⟩
       ·exact .inl h
       ·rw[← h]
        by_cases hf:Ie E (Bb E) ck m2 n (.loop a) ⟨f'.tmps,f'.dfr⟩ S' = .fail
        ·rw[hf];exact .inl rfl
        ·refine .inr ⟨max m1 m2+1,?_⟩
         show Dt E (Bb E) (Ie E (Bb E) ck (max m1 m2)) ck n (.loop a) ⟨t,d⟩ S=_
         simp only[Dt];rw[aQ (Nat.le_max_left m1 m2) hne,hr];exact aQ (Nat.le_max_right m1 m2) hf
      |exit i=>refine .inr ⟨m1+1,?_⟩;show Dt E (Bb E) (Ie E (Bb E) ck m1) ck n (.loop a) ⟨t,d⟩ S=_;simp only[Dt,hr];rfl
      |ret=>refine .inr ⟨m1+1,?_⟩;show Dt E (Bb E) (Ie E (Bb E) ck m1) ck n (.loop a) ⟨t,d⟩ S=_;simp only[Dt,hr];rfl
      |pan b=>refine .inr ⟨m1+1,?_⟩;show Dt E (Bb E) (Ie E (Bb E) ck m1) ck n (.loop a) ⟨t,d⟩ S=_;simp only[Dt,hr];rfl
  show(loopB (Jw E n a none)).c ck t d S=.fail∨∃m,_=(loopB (Jw E n a none)).c ck t d S
  rw[loopB_c];exact key _ t d S
 |.exit id=>fun k t d S=>.inr ⟨1,by cases k <;> rfl⟩
 |.ret=>fun k t d S=>.inr ⟨1,by cases k <;> rfl⟩
 |.rangeFunc .. => fun k t d S=>.inl rfl
 |.scope _=>fun k t d S=>.inl rfl
 |.goto _=>fun k t d S=>.inl rfl
 |.refuse _=>fun k t d S=>.inl rfl
theorem yC{E:Env}{t:TypeId}{g:GB}{f:T AV}{S:St}{a:AV}(h:(kR E.P t g).v f S=some a):∃b,g.g f=some b∧A8 E.P S t b=some a:=by
 unfold kR at h
 split at h
 ·rename_i ht
  obtain⟨b,h1,h2⟩:=Fu h;exact⟨b,h1,ld1_ok ht h2⟩
 ·rename_i ht
  split at h
  ·rename_i n hs
   obtain⟨b,h1,h2⟩:=Fu h;exact⟨b,h1,ldN_ok ht hs h2⟩
  ·cases h
 ·cases h
def aI(P:Program)(r:ResultVar):VB:=match r with
 |.tmp t=>moveV (oU t)
 |.cell x t=>kR P t (oU x)
def resX(l:List VB)(f:T AV)(S:St):Option (List AV):=List.rec (motive:=fun _=>Option (List AV)) (some []) (fun v _ ih=>Option.rec (motive:=fun _=>Option (List AV)) none (fun a=>Pq a ih) (v.v f S)) l
theorem resX_ok{E:Env}{f:T AV}{S:St}:∀{rs:List ResultVar} {l:List AV},resX (rs.map (aI E.P)) f S=some l→Ba E f S rs=some l
 | [],l,h=>h
 |r :: rs,l,h=>by
  have h:Option.rec (motive:=fun _=>Option (List AV)) none (fun a=>Pq a (resX (rs.map (aI E.P)) f S)) ((aI E.P r).v f S)=some l:=h
  cases hv:(aI E.P r).v f S with
  |none=>rw[hv]at h;cases h
  |some a =>
   rw[hv]at h;have h:Pq a (resX (rs.map (aI E.P)) f S)=some l:=h
   cases hq:resX (rs.map (aI E.P)) f S with
   |none=>rw[hq]at h;cases h
   |some q =>
    rw[hq]at h;have h:some (a :: q)=some l:=h;injection h with h;subst h
    have ih:=resX_ok (E:=E) hq
    cases r with
    |tmp t =>
     have hv:(oU t).g f=some a:=hv;rw[Xh]at hv;simp only[Ba,hv,ih]
    |cell x t =>
     obtain⟨b,h1,h2⟩:=yC (E:=E) hv;rw[Xh]at h1;simp only[Ba,h1,h2,ih]
def uL(l:List VB)(f:T AV)(S:St):R:=Option.rec (motive:=fun _=>R) .fail (fun l=>.ret (D8 l) S) (resX l f S)
def zE(l:List VB)(r:O):R:=O.rec (motive:=fun _=>R) (fun e f S=>List.rec (motive:=fun _=>R) (Ex.rec (motive:=fun _=>R) (uL l f.tmps S) (fun _=>.fail) (uL l f.tmps S) (fun a=>.pan a S) e) (fun _ _ _=>.fail) f.dfr) .fail r
def Xe(l:List AV):Nat→T AV:=List.rec (motive:=fun _=>Nat→T AV) (fun _=>.leaf) (fun a _ ih k=>(setS k).s (ih (Nat.succ k)) a) l
theorem uB:∀(l:List AV) (k:Nat),Xe l k=Cx l k
 | [],k=>rfl
 |a :: r,k=>by
  show(setS k).s (Xe r (k+1)) a=_
  rw[setS_ok,uB r (k+1)];rfl
def runCR(E:Env)(ck:Dk)(m:Nat):Nat→Code→Fr→St→O :=
 Nat.rec (motive:=fun _=>Nat→Code→Fr→St→O) (fun _ _ _ _=>.fail) (fun _ ih=>cL E (Uw E) ih ck) m
theorem rS(E:Env)(ck:Dk):∀m,runCR E ck m=Ie E (Bb E) ck m
 |0=>rfl
 |m+1=>by
  have ih:=rS E ck m
  show(fun n c f S=>cL E (Uw E) (runCR E ck m) ck n c f S)=_
  rw[ih,pJ]
  funext n c f S
  exact jE ..
def defers(l:List Oper):Bool:=l.any fun o=>match o.op with |.defer _=>true |_=>false
def Pj:Code→Bool
 |.region _ ops _=>defers ops.toList
 |.seq a b=>Pj a || Pj b
 |.cond _ a b=>Pj a || Pj b
 |.block _ a=>Pj a
 |.loop a=>Pj a
 |_=>false
def failF:FB:=⟨fun _ _ _=>.fail⟩
def slowF(E:Env)(k:FuncId):FB:=⟨fun ck args S=>Jc E (runCR E ck uP) k args S⟩
def fastF(x:Bx)(n:Nat)(l:List VB):FB:=⟨fun ck args S=>Bool.rec (motive:=fun _=>R) .fail (zE l (x.c ck (Xe args 0) [] S)) (Nat.ble (Yx args) n)⟩
def fnB(E:Env)(k:FuncId):FB:=match E.F k with
 |none=>failF
 |some fn=>match E.I k with
  |some g=>⟨fun _ args S=>g args S⟩
  |none=>match fn.body with
   |none=>failF
   |some c=>if Pj c then slowF E k else fastF (Jw E fn.ntmps c none) fn.ntmps (fn.results.toList.map (aI E.P))
def Mn(E:Env)(m:Nat):Dk:=Nat.rec (motive:=fun _=>Dk) (fun _ _ _=>.fail) (fun _ ih k args S=>(fnB E k).f ih args S) m
theorem endX_ok{E:Env}{fn:Func}{rec:Nat→Code→Fr→St→O}(r:O):zE (fn.results.toList.map (aI E.P)) r=.fail∨zE (fn.results.toList.map (aI E.P)) r=Q7 E rec fn r:=by
 have give:∀(f:T AV) (S:St),uL (fn.results.toList.map (aI E.P)) f S=.fail∨uL (fn.results.toList.map (aI E.P)) f S=Kl E fn f S:=fun f S=>by
  unfold uL
  cases hq:resX (fn.results.toList.map (aI E.P)) f S with
  |none=>exact .inl rfl
  |some l =>
   refine .inr ?_;unfold Kl;rw[resX_ok hq]
 cases r with
 |fail=>exact .inl rfl
 |out e f S =>
  obtain⟨t,d⟩:=f
  cases d with
  |cons x y=>exact .inl rfl
  |nil=>cases e with
   |normal=>exact give t S
   |exit i=>exact .inl rfl
   |ret=>exact give t S
   |pan a=>exact .inr rfl
theorem fnB_ok{E:Env}{ck:Dk}(hck:CkF E ck)(k:FuncId)(args:List AV)(S:St):(fnB E k).f ck args S=.fail∨((E.F k).isSome=true∧∃m,(fnB E k).f ck args S=Jc E (Ie E (Bb E) ck m) k args S):=by
 unfold fnB
 cases hF:E.F k with
 |none=>exact .inl rfl
 |some fn =>
  simp only
  cases hI:E.I k with
  |some g=>exact .inr ⟨rfl,0,by simp only[Jc,hI]⟩
  |none =>
   simp only
   cases hb:fn.body with
   |none=>exact .inl rfl
   |some c =>
    simp only
    split
    ·exact .inr ⟨rfl,uP,by show Jc E (runCR E ck uP) k args S=_;rw[rS]⟩
    ·show(Bool.rec (motive:=fun _=>R) .fail (zE _ ((Jw E fn.ntmps c none).c ck (Xe args 0) [] S)) (Nat.ble (Yx args) fn.ntmps):R)=.fail∨_∧∃m,(Bool.rec (motive:=fun _=>R) .fail (zE _ ((Jw E fn.ntmps c none).c ck (Xe args 0) [] S)) (Nat.ble (Yx args) fn.ntmps):R)=_
     cases hl:Nat.ble (Yx args) fn.ntmps with
     |false=>exact .inl rfl
     |true =>
      have hle:args.length≤fn.ntmps:=by rw[← Ox];exact Jd3 hl
      show zE _ ((Jw E fn.ntmps c none).c ck (Xe args 0) [] S)=.fail∨_∧∃m,zE _ ((Jw E fn.ntmps c none).c ck (Xe args 0) [] S)=_
      rcases P8 hck c none (Xe args 0) [] S with h | ⟨m,h⟩
      ·rw[h];exact .inl rfl
      ·rw[← h]
       rcases endX_ok (E:=E) (fn:=fn) (rec:=Ie E (Bb E) ck m) (Vo none ck (Ie E (Bb E) ck m fn.ntmps c ⟨Xe args 0,[]⟩ S))with h2 |h2
       ·exact .inl h2
       ·refine .inr ⟨rfl,m,h2.trans ?_⟩
        simp only[Jc,hI,hF,hb,if_pos hle,uB];rfl
theorem pV{E:Env}:∀m,CkF E (Mn E m)
 |0=>fun k args S h=>absurd rfl h
 |m+1=>fun k args S h=>by
  rcases fnB_ok (pV m) k args S with h2 | ⟨h2,_⟩
  ·exact absurd h2 h
  ·exact h2
theorem Rc{E:Env}(hE:E.Ok)(hI:G8 E)(hmix:E.P.follows .mixedOrders=true):∀m base w0,Nm E base w0 (Mn E m)
 |0,base,w0=>fun k args S h=>absurd rfl h
 |m+1,base,w0=>by
  intro k args S hne γ w vs hS hg hv hF;rcases fnB_ok (pV m) k args S with h2 | ⟨_,j,h2⟩
  ·exact absurd h2 hne
  ·have e:Mn E (m+1) k args S=Jc E (Ie E (Bb E) (Mn E m) j) k args S:=h2
   rw[e]at hne ⊢;exact Lz hE hI (Vw hE (Gk hE hmix) (Rc hE hI hmix m) j) base w0 k args S hne γ w vs hS hg hv hF
end Go.Ax
noncomputable section
namespace Go.Ax
open Go.RowKit
section
variable {E:Env}
end
end Go.Ax
