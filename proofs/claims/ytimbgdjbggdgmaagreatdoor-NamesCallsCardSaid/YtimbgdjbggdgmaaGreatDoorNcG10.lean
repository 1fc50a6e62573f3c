/- Ha -/
import Derived.Test.YtimbgdjbggdgmaaGreatDoorNcG9
import Derived.Test.YtimbgdjbggdgmaaGreatDoorProg
import Derived.ProofKit
import Derived.Laws.Slices
import Derived.IntWalk
import Derived.Lib.AppendZerosOnto
import Derived.Test.YtimbgdjbggdgmaaGreatDoorAxShelf
import Derived.Lib.AtoiErrMem
import Derived.KernelRfl
import Derived.Lib.ParseIntB
set_option linter.unusedVariables false
set_option linter.unusedSimpArgs false
set_option maxHeartbeats 16000000
noncomputable section
open Nat (reduceLT reduceEqDiff)
namespace Go.Ax
open Go.RowKit
abbrev ckN(E:Env)(m:Nat):Dk:=Rd E (Bb E) m
def CT(E:Env)(k:FuncId)(args:List AV)(S:St)(r:R):Prop:=∃m0,∀m,m0≤m→ckN E m k args S=r
def RT(E:Env)(n:Nat)(c:Code)(f:Fr)(S:St)(r:O):Prop:=∃m0,∀m,m0≤m→run E (Bb E) m n c f S=r
def LT(E:Env)(n:Nat)(ops:Array Oper)(l:List Oper)(f:Fr)(S:St)(r:O):Prop:=∃m0,∀m,m0≤m→dB E (ckN E m) n ops l f S=r
def DT(E:Env)(n:Nat)(ops:Array Oper)(l:List RS)(f:Fr)(S:St)(r:O):Prop:=∃m0,∀m,m0≤m→Fm E (ckN E m) n ops l f S=r
def WC(E:Env)(k:FuncId)(args:List AV)(S:St)(Q:R→Prop):Prop:=∃r,CT E k args S r∧Q r
def WX(E:Env)(n:Nat)(c:Code)(f:Fr)(S:St)(Q:O→Prop):Prop:=∃r,RT E n c f S r∧Q r
def aJ(n:Nat)(f:Fr)(dst:Option Tmp)(a:AV)(S:St)(K:Fr→St→Prop):Prop:=match dst with
 |none=>K f S
 |some d=>d<n∧K { f with tmps:=f.tmps.set d (some a) } S
def retW(n:Nat)(f:Fr)(dst:Option Tmp)(K:Fr→St→Prop)(Q:O→Prop):R→Prop
 |.ret a S=>aJ n f dst a S K
 |.pan a S=>Q (.out (.pan a) f S)
 |.fail=>False
def execW(E:Env)(n:Nat)(o:Oper)(f:Fr)(K:Fr→St→Prop)(Q:O→Prop):OR→Prop
 |.val a S'=>aJ n f o.dst a S' K
 |.skip S'=>aJ n f o.dst (.tup []) S' K
 |.enter k args S'=>WC E k args S' (retW n f o.dst K Q)
 |.dfr fn caps args S'=>aJ n { f with dfr:=⟨fn,caps,args⟩ :: f.dfr } o.dst (.tup []) S' K
 |.pan a S'=>Q (.out (.pan a) f S')
 |.fail=>False
def Zo(E:Env)(n:Nat)(ops:Array Oper)(o:Oper)(f:Fr)(S:St)(K:Fr→St→Prop)(Q:O→Prop):Prop:=match Bc ops o f.tmps with
 |none=>False
 |some false=>aJ n f o.dst (.tup []) S K
 |some true=>execW E n o f K Q (Bg E f.tmps S o)
def WL(E:Env)(n:Nat)(ops:Array Oper):List Oper→Fr→St→(O→Prop)→Prop
 | [],f,S,Q=>Q (.out .normal f S)
 |o :: l,f,S,Q=>Zo E n ops o f S (fun f' S'=>WL E n ops l f' S' Q) Q
def WR(E:Env)(n:Nat)(ops:Array Oper):List RS→Fr→St→(O→Prop)→Prop
 | [],f,S,Q=>Q (.out .normal f S)
 |.op o :: l,f,S,Q=>Zo E n ops o f S (fun f' S'=>WR E n ops l f' S' Q) Q
 |.re o :: l,f,S,Q=>Ez E ops o f.tmps S=true∧WR E n ops l f S Q
def WD(E:Env)(n:Nat)(ops:Array Oper)(f:Fr)(S:St)(Q:O→Prop):Prop:=∃r,(∃m0,∀m,m0≤m→Bb E (ckN E m) n ops f S=r)∧Q r
def Va(K:Fr→St→Prop)(Q:O→Prop):O→Prop
 |.out .normal f S=>K f S
 |r=>Q r
def On(id:Nat)(Q:O→Prop):O→Prop
 |.out (.exit id') f S=>if id' = id then Q (.out .normal f S)else Q (.out (.exit id') f S)
 |r=>Q r
def Xt(c:Option AV)(x y:Prop):Prop:=match c with
 |some (.v (.bool true))=>x
 |some (.v (.bool false))=>y
 |_=>False
def W(E:Env)(n:Nat)(c:Code)(f:Fr)(S:St)(Q:O→Prop):Prop:=match c with
 |.skip=>Q (.out .normal f S)
 |.label _=>Q (.out .normal f S)
 |.region _ ops false=>WL E n ops ops.toList f S Q
 |.region _ ops true=>WD E n ops f S Q
 |.seq a b=>W E n a f S (Va (fun f' S'=>W E n b f' S' Q) Q)
 |.cond c x y=>Xt (A6 E.G f.tmps c) (W E n x f S Q) (W E n y f S Q)
 |.block id c=>W E n c f S (On id Q)
 |.loop c=>WX E n (.loop c) f S Q
 |.exit id=>Q (.out (.exit id) f S)
 |.ret=>Q (.out .ret f S)
 |_=>False
theorem rP(E:Env)(m n:Nat)(c:Code)(f:Fr)(S:St):run E (Bb E) (m+1) n c f S=Dt E (Bb E) (run E (Bb E) m) (ckN E m) n c f S:=rfl
theorem Yn{n:Nat}{f:Fr}{dst:Option Tmp}{a:AV}{S:St}{K:Fr→St→Prop}(h:aJ n f dst a S K):∃f',M9 n f dst a S=.out .normal f' S∧K f' S:=by
 unfold aJ at h;unfold M9
 cases dst with
 |none=>exact⟨f,rfl,h⟩
 |some d=>exact⟨_,by simp only[if_pos h.1],h.2⟩
theorem cK{E:Env}{n:Nat}{ops:Array Oper}{o:Oper}{f:Fr}{S:St}{K:Fr→St→Prop}{Q:O→Prop}(h:Zo E n ops o f S K Q):
  ∃m0,(∃f' S',K f' S'∧∀m,m0≤m→Fj E (ckN E m) n ops o f S=.out .normal f' S')∨(∃a f' S',Q (.out (.pan a) f' S')∧∀m,m0≤m→Fj E (ckN E m) n ops o f S=.out (.pan a) f' S'):=by
 unfold Zo at h
 have hput:∀{dst a S'},aJ n f dst a S' K→(∀m,Fj E (ckN E m) n ops o f S=M9 n f dst a S')→∃m0,(∃f' S',K f' S'∧∀m,m0≤m→Fj E (ckN E m) n ops o f S=.out .normal f' S')∨(∃a f' S',Q (.out (.pan a) f' S')∧∀m,m0≤m→Fj E (ckN E m) n ops o f S=.out (.pan a) f' S'):=fun hp he=>by
  obtain⟨f',e,hk⟩:=Yn hp;exact⟨0,.inl ⟨f',_,hk,fun m _=>(he m).trans e⟩⟩
 cases hw:Bc ops o f.tmps with
 |none=>rw[hw]at h;exact h.elim
 |some b =>
  rw[hw]at h
  cases b with
  |false=>exact hput h (fun m=>by unfold Fj;rw[hw])
  |true =>
   unfold execW at h;simp only at h
   cases hx:Bg E f.tmps S o with
   |val a S'=>rw[hx]at h;exact hput h (fun m=>by unfold Fj;rw[hw];simp only[hx])
   |skip S'=>rw[hx]at h;exact hput h (fun m=>by unfold Fj;rw[hw];simp only[hx])
   |enter k args S' =>
    rw[hx]at h;obtain⟨r,⟨m0,hm⟩,hq⟩:=h;unfold retW at hq
    cases r with
    |ret a S2 =>
     obtain⟨f',e,hk⟩:=Yn hq;exact⟨m0,.inl ⟨f',_,hk,fun m h=>by unfold Fj;rw[hw];simp only[hx,hm m h,e]⟩⟩
    |pan a S2=>exact⟨m0,.inr ⟨a,_,_,hq,fun m h=>by unfold Fj;rw[hw];simp only[hx,hm m h]⟩⟩
    |fail=>exact hq.elim
   |dfr fn caps args S' =>
    rw[hx]at h;obtain⟨f',e,hk⟩:=Yn h;exact⟨0,.inl ⟨f',_,hk,fun m _=>by unfold Fj;rw[hw];simp only[hx,e]⟩⟩
   |pan a S'=>rw[hx]at h;exact⟨0,.inr ⟨a,_,_,h,fun m _=>by unfold Fj;rw[hw];simp only[hx]⟩⟩
   |fail=>rw[hx]at h;exact h.elim
theorem wC{E:Env}{n:Nat}{ops:Array Oper}:∀{l:List Oper} {f:Fr} {S:St} {Q:O→Prop},WL E n ops l f S Q→∃r,LT E n ops l f S r∧Q r
 | [],f,S,Q,h=>⟨_,⟨0,fun _ _=>rfl⟩,h⟩
 |o :: l,f,S,Q,h=>by
  obtain⟨m0,⟨f',S',hk,hm⟩ | ⟨a,f',S',hq,hm⟩⟩:=cK h
  ·obtain⟨r,⟨m1,h1⟩,h2⟩:=wC hk
   exact⟨r,⟨max m0 m1,fun m hmm=>by
    show(match Fj E (ckN E m) n ops o f S with |.out .normal f' S'=>dB E (ckN E m) n ops l f' S' |x=>x)=r
    rw[hm m (by omega)];exact h1 m (by omega)⟩,h2⟩
  ·exact⟨_,⟨m0,fun m hmm=>by
    show(match Fj E (ckN E m) n ops o f S with |.out .normal f' S'=>dB E (ckN E m) n ops l f' S' |x=>x)=_
    rw[hm m hmm]⟩,hq⟩
theorem Rg{E:Env}{n:Nat}{ops:Array Oper}:∀{l:List RS} {f:Fr} {S:St} {Q:O→Prop},WR E n ops l f S Q→∃r,DT E n ops l f S r∧r≠.fail∧Q r
 | [],f,S,Q,h=>⟨_,⟨0,fun _ _=>rfl⟩,(fun e=>by cases e),h⟩
 |.op o :: l,f,S,Q,h=>by
  obtain⟨m0,⟨f',S',hk,hm⟩ | ⟨a,f',S',hq,hm⟩⟩:=cK h
  ·obtain⟨r,⟨m1,h1⟩,h3,h2⟩:=Rg hk
   exact⟨r,⟨max m0 m1,fun m hmm=>by
    show(match Fj E (ckN E m) n ops o f S with |.out .normal f' S'=>Fm E (ckN E m) n ops l f' S' |x=>x)=r
    rw[hm m (by omega)];exact h1 m (by omega)⟩,h3,h2⟩
  ·exact⟨_,⟨m0,fun m hmm=>by
    show(match Fj E (ckN E m) n ops o f S with |.out .normal f' S'=>Fm E (ckN E m) n ops l f' S' |x=>x)=_
    rw[hm m hmm]⟩,(fun e=>by cases e),hq⟩
 |.re o :: l,f,S,Q,h=>by
  obtain⟨r,⟨m1,h1⟩,h3,h2⟩:=Rg h.2
  exact⟨r,⟨m1,fun m hmm=>by
   show(if Ez E ops o f.tmps S=true then Fm E (ckN E m) n ops l f S else .fail)=r
   rw[if_pos h.1];exact h1 m hmm⟩,h3,h2⟩
theorem WD_steps{E:Env}{n:Nat}{ops:Array Oper}{f:Fr}{S:St}{Q:O→Prop}{rs:List RS}(h3:Lm ops (bm ops.toList []) (Kp ops (bm ops.toList []) ops.size (List.range ops.size) 0) []=some rs)
  (h2:Rp ops (bm ops.toList []) (Kp ops (bm ops.toList []) ops.size (List.range ops.size) 0)=true) (h:WR E n ops rs f S (fun r=>Q (Tm ⟨Gf ops.toList f.tmps,f.dfr⟩ r))):WD E n ops f S Q:=by
 obtain⟨r,⟨m0,hm⟩,hne,hq⟩:=Rg h;have h1:Ol E.P ops=none:=by unfold Ol;simp only[h2,if_true]
 have h1t:Vh ops=false:=by unfold Vh;simp only[h2,if_true]
 refine⟨_,⟨m0,fun m hmm=>?_⟩,hq⟩
 unfold Bb;rw[h1];simp only[h1t,Bool.false_eq_true,if_false];unfold H1;simp only;rw[if_pos h2];rcases Jb (E:=E) (ck:=ckN E m) (n:=n) (fb:=⟨Gf ops.toList f.tmps,f.dfr⟩) _ rs f S [] h3 (fun _ h=>absurd h Ja7)with h |h
 ·rw[hm m hmm]at h;exact absurd h hne
 ·rw[h,hm m hmm]
theorem WD_fl{E:Env}{n:Nat}{ops:Array Oper}{f:Fr}{S:St}{Q:O→Prop}{x:FlP}{rs:List RS}(h1:Ol E.P ops=some x)(h2:Re ops x=some rs)(h3:x.d<n)
  (h:WR E n ops rs ⟨f.tmps.set x.d none,f.dfr⟩ S (fun r=>Q (Tm ⟨Gf ops.toList f.tmps,f.dfr⟩ r))):WD E n ops f S Q:=by
 obtain⟨r,⟨m0,hm⟩,hne,hq⟩:=Rg h;refine⟨_,⟨m0,fun m hmm=>?_⟩,hq⟩
 unfold Bb;rw[h1];simp only;unfold R9;rw[h2];simp only;rw[if_pos h3,hm m hmm]
def Mp(ops:Array Oper):List (Nat × Bool)→List RS
 | []=>[]
 | (i,b) :: r=>match ops[i]? with
  |some o=>(if b then RS.op o else RS.re o) :: Mp ops r
  |none=>[]
theorem C7(K:Fr→St→Prop)(Q:O→Prop)(f:Fr)(S:St):Va K Q (.out .normal f S)=K f S:=rfl
theorem De(K:Fr→St→Prop)(Q:O→Prop)(id:Nat)(f:Fr)(S:St):Va K Q (.out (.exit id) f S)=Q (.out (.exit id) f S):=rfl
theorem Je(K:Fr→St→Prop)(Q:O→Prop)(f:Fr)(S:St):Va K Q (.out .ret f S)=Q (.out .ret f S):=rfl
theorem Ib(K:Fr→St→Prop)(Q:O→Prop)(a:AV)(f:Fr)(S:St):Va K Q (.out (.pan a) f S)=Q (.out (.pan a) f S):=rfl
theorem Bp{E:Env}{n:Nat}:∀{c:Code} {f:Fr} {S:St} {Q:O→Prop},W E n c f S Q→WX E n c f S Q:=by
 have up:∀{c:Code} {f:Fr} {S:St} {r:O},(∃m0,∀m,m0≤m→Dt E (Bb E) (run E (Bb E) m) (ckN E m) n c f S=r)→RT E n c f S r:=fun⟨m0,h⟩=>⟨m0+1,fun m hm=>by
  obtain⟨k,rfl⟩:∃k,m=k+1:=⟨m - 1,by omega⟩
  rw[rP];exact h k (by omega)⟩
 intro c
 induction c with
 |skip=>intro f S Q h;unfold W at h;exact⟨_,up ⟨0,fun _ _=>rfl⟩,h⟩
 |label l=>intro f S Q h;unfold W at h;exact⟨_,up ⟨0,fun _ _=>rfl⟩,h⟩
 |region id ops draw =>
  intro f S Q h;unfold W at h
  cases draw with
  |false =>
   obtain⟨r,⟨m0,hm⟩,hq⟩:=wC h;exact⟨r,up ⟨m0,fun m hmm=>hm m hmm⟩,hq⟩
  |true =>
   obtain⟨r,⟨m0,hm⟩,hq⟩:=h;exact⟨r,up ⟨m0,fun m hmm=>hm m hmm⟩,hq⟩
 |seq a b iha ihb =>
  intro f S Q h;unfold W at h;obtain⟨r,⟨m0,hm⟩,hq⟩:=iha h;have other:Va (fun f' S'=>W E n b f' S' Q) Q r=Q r→(∀m,m0≤m→Dt E (Bb E) (run E (Bb E) m) (ckN E m) n (.seq a b) f S=r)→WX E n (.seq a b) f S Q:=fun e he=>⟨r,up ⟨m0,he⟩,by rw[← e];exact hq⟩
  cases r with
  |fail=>exact other rfl (fun m hmm=>by unfold Dt;simp only[hm m hmm])
  |out e f' S' =>
   cases e with
   |normal =>
    obtain⟨r,⟨m1,h1⟩,hq⟩:=ihb hq
    exact⟨r,up ⟨max m0 m1,fun m hmm=>by
     unfold Dt;simp only
     rw[hm m (by omega)];exact h1 m (by omega)⟩,hq⟩
   |exit id=>exact other rfl (fun m hmm=>by unfold Dt;simp only[hm m hmm])
   |ret=>exact other rfl (fun m hmm=>by unfold Dt;simp only[hm m hmm])
   |pan a=>exact other rfl (fun m hmm=>by unfold Dt;simp only[hm m hmm])
 |cond c x y ihx ihy =>
  intro f S Q h;unfold W at h;unfold Xt at h
  split at h
  ·rename_i hc
   obtain⟨r,⟨m0,hm⟩,hq⟩:=ihx h;exact⟨r,up ⟨m0,fun m hmm=>by unfold Dt;simp only[hc];exact hm m hmm⟩,hq⟩
  ·rename_i hc
   obtain⟨r,⟨m0,hm⟩,hq⟩:=ihy h;exact⟨r,up ⟨m0,fun m hmm=>by unfold Dt;simp only[hc];exact hm m hmm⟩,hq⟩
  ·exact h.elim
 |block id c ih =>
  intro f S Q h;unfold W at h;obtain⟨r,⟨m0,hm⟩,hq⟩:=ih h;have other:On id Q r=Q r→(∀m,m0≤m→Dt E (Bb E) (run E (Bb E) m) (ckN E m) n (.block id c) f S=r)→WX E n (.block id c) f S Q:=fun e he=>⟨r,up ⟨m0,he⟩,by rw[← e];exact hq⟩
  cases r with
  |fail=>exact other rfl (fun m hmm=>by unfold Dt;simp only[hm m hmm])
  |out e f' S' =>
   cases e with
   |exit id' =>
    unfold On at hq;simp only at hq
    by_cases hi:id' = id
    ·rw[if_pos hi]at hq
     exact⟨_,up ⟨m0,fun m hmm=>by unfold Dt;simp only[hm m hmm,if_pos hi]⟩,hq⟩
    ·rw[if_neg hi]at hq
     exact⟨_,up ⟨m0,fun m hmm=>by unfold Dt;simp only[hm m hmm,if_neg hi]⟩,hq⟩
   |normal=>exact other rfl (fun m hmm=>by unfold Dt;simp only[hm m hmm])
   |ret=>exact other rfl (fun m hmm=>by unfold Dt;simp only[hm m hmm])
   |pan a=>exact other rfl (fun m hmm=>by unfold Dt;simp only[hm m hmm])
 |loop c ih=>intro f S Q h;unfold W at h;exact h
 |exit id=>intro f S Q h;unfold W at h;exact⟨_,up ⟨0,fun _ _=>rfl⟩,h⟩
 |ret=>intro f S Q h;unfold W at h;exact⟨_,up ⟨0,fun _ _=>rfl⟩,h⟩
 |_=>intro f S Q h;unfold W at h;exact h.elim
theorem WX.mono{E:Env}{n:Nat}{c:Code}{f:Fr}{S:St}{Q Q':O→Prop}(h:WX E n c f S Q)(hq:∀r,Q r→Q' r):WX E n c f S Q':=by
 obtain⟨r,h1,h2⟩:=h;exact⟨r,h1,hq r h2⟩
theorem WC.mono{E:Env}{k:FuncId}{args:List AV}{S:St}{Q Q':R→Prop}(h:WC E k args S Q)(hq:∀r,Q r→Q' r):WC E k args S Q':=by
 obtain⟨r,h1,h2⟩:=h;exact⟨r,h1,hq r h2⟩
theorem Bt{E:Env}{n:Nat}{c:Code}{f:Fr}{S:St}{Q:O→Prop}(h:WX E n c f S (Va (fun f' S'=>WX E n (.loop c) f' S' Q) Q)):WX E n (.loop c) f S Q:=by
 obtain⟨r,⟨m0,hm⟩,hq⟩:=h
 have up:∀{r:O},(∃m0,∀m,m0≤m→Dt E (Bb E) (run E (Bb E) m) (ckN E m) n (.loop c) f S=r)→RT E n (.loop c) f S r:=fun⟨m0,h⟩=>⟨m0+1,fun m hm=>by
  obtain⟨k,rfl⟩:∃k,m=k+1:=⟨m - 1,by omega⟩
  rw[rP];exact h k (by omega)⟩
 have other:Va (fun f' S'=>WX E n (.loop c) f' S' Q) Q r=Q r→(∀m,m0≤m→Dt E (Bb E) (run E (Bb E) m) (ckN E m) n (.loop c) f S=r)→WX E n (.loop c) f S Q:=fun e he=>⟨r,up ⟨m0,he⟩,by rw[← e];exact hq⟩
 cases r with
 |fail=>exact other rfl (fun m hmm=>by unfold Dt;simp only[hm m hmm])
 |out e f' S' =>
  cases e with
  |normal =>
   obtain⟨r,⟨m1,h1⟩,hq⟩:=hq
   exact⟨r,up ⟨max m0 m1,fun m hmm=>by
    unfold Dt;simp only
    rw[hm m (by omega)];exact h1 m (by omega)⟩,hq⟩
  |exit id=>exact other rfl (fun m hmm=>by unfold Dt;simp only[hm m hmm])
  |ret=>exact other rfl (fun m hmm=>by unfold Dt;simp only[hm m hmm])
  |pan a=>exact other rfl (fun m hmm=>by unfold Dt;simp only[hm m hmm])
def Cm(E:Env)(rs:List ResultVar)(f:Fr)(S:St)(Q:R→Prop):Prop:=match f.dfr,Ba E f.tmps S rs with
 | [],some l=>Q (.ret (D8 l) S)
 |_,_=>False
def U6(E:Env)(rs:List ResultVar)(Q:R→Prop):O→Prop
 |.out .normal f S=>Cm E rs f S Q
 |.out .ret f S=>Cm E rs f S Q
 |.out (.pan a) f S=>f.dfr=[]∧Q (.pan a S)
 |_=>False
theorem WC_ext{E:Env}{k:FuncId}{args:List AV}{S:St}{Q:R→Prop}(fn:Func)(hI:E.I k=none)(hF:E.F k=some fn)(hb:fn.body.isSome=true)(hl:args.length≤fn.ntmps)
  (h:WX E fn.ntmps (fn.body.getD .skip) ⟨Cx args 0,[]⟩ S (U6 E fn.results.toList Q)):WC E k args S Q:=by
 obtain⟨r,⟨m0,hm⟩,hq⟩:=h;obtain⟨c,hc⟩:=Jc0.1 hb
 have key:∀m,m0≤m→ckN E m k args S=Q7 E (run E (Bb E) m) fn r:=fun m hmm=>by
  show Jc E (run E (Bb E) m) k args S=_
  unfold Jc;rw[hI,hF];simp only[hc,if_pos hl];have:=hm m hmm;rw[hc]at this;rw[show run E (Bb E) m fn.ntmps c ⟨Cx args 0,[]⟩ S=r from this]
 have give:∀(f:Fr) (S':St),Cm E fn.results.toList f S' Q→∃l,f.dfr=[]∧Ba E f.tmps S' fn.results.toList=some l∧Q (.ret (D8 l) S'):=fun f S' hg=>by
  unfold Cm at hg
  split at hg
  ·rename_i l h1 h2;exact⟨l,h1,h2,hg⟩
  ·exact hg.elim
 cases r with
 |fail=>exact hq.elim
 |out e f' S' =>
  cases e with
  |normal =>
   obtain⟨l,h1,h2,h3⟩:=give f' S' hq;exact⟨_,⟨m0,fun m hmm=>by rw[key m hmm];simp only[Q7,h1,Kl,h2]⟩,h3⟩
  |ret =>
   obtain⟨l,h1,h2,h3⟩:=give f' S' hq;exact⟨_,⟨m0,fun m hmm=>by rw[key m hmm];simp only[Q7,h1,Kl,h2]⟩,h3⟩
  |pan a=>exact⟨_,⟨m0,fun m hmm=>by rw[key m hmm];simp only[Q7,hq.1]⟩,hq.2⟩
  |exit id=>exact hq.elim
theorem WC_fn{E:Env}{k:FuncId}{args:List AV}{S:St}{Q:R→Prop}(fn:Func)(hI:E.I k=none)(hF:E.F k=some fn)(hb:fn.body.isSome=true)(hl:args.length≤fn.ntmps)
  (h:W E fn.ntmps (fn.body.getD .skip) ⟨Cx args 0,[]⟩ S (U6 E fn.results.toList Q)):WC E k args S Q:=WC_ext fn hI hF hb hl (Bp h)
theorem WCk{E:Env}{k:FuncId}{args:List AV}{S:St}{Q:R→Prop}(fn:Func)(h:W E fn.ntmps (fn.body.getD .skip) ⟨Cx args 0,[]⟩ S (U6 E fn.results.toList Q))(hI:E.I k=none:=by kernel_rfl)(hF:E.F k=some fn:=by kernel_rfl)(hb:fn.body.isSome=true:=by kernel_rfl)(hl:Nat.ble args.length fn.ntmps=true:=by kernel_rfl):WC E k args S Q:=WC_fn fn hI hF hb (Jd3 hl) h
theorem Gu{E:Env}{k:FuncId}{args:List AV}{S:St}{Q:R→Prop}{g:List AV→St→R}(hI:E.I k=some g)(h:Q (g args S)):WC E k args S Q :=
 ⟨_,⟨0,fun m _=>by show Jc E (run E (Bb E) m) k args S=_;unfold Jc;rw[hI]⟩,h⟩
def nL(E:Env)(n:Nat)(b:Code)(Q:O→Prop):O→Prop:=Va (fun f S=>W E n b f S Q) Q
def Si(E:Env)(n:Nat)(ops:Array Oper)(o:Oper)(l:List Oper)(f:Fr)(S:St)(Q:O→Prop):Option Bool→OR→Prop
 |none,_=>False
 |some false,_=>aJ n f o.dst (.tup []) S (fun f' S'=>WL E n ops l f' S' Q)
 |some true,x=>execW E n o f (fun f' S'=>WL E n ops l f' S' Q) Q x
def Vn(E:Env)(n:Nat)(ops:Array Oper)(o:Oper)(l:List RS)(f:Fr)(S:St)(Q:O→Prop):Option Bool→OR→Prop
 |none,_=>False
 |some false,_=>aJ n f o.dst (.tup []) S (fun f' S'=>WR E n ops l f' S' Q)
 |some true,x=>execW E n o f (fun f' S'=>WR E n ops l f' S' Q) Q x
def Yo(E:Env)(n:Nat)(ops:Array Oper)(l:List Oper)(dst:Option Tmp)(f:Fr)(a:AV)(S:St)(Q:O→Prop):Prop:=aJ n f dst a S (fun f' S'=>WL E n ops l f' S' Q)
def Tb(E:Env)(n:Nat)(ops:Array Oper)(l:List RS)(dst:Option Tmp)(f:Fr)(a:AV)(S:St)(Q:O→Prop):Prop:=aJ n f dst a S (fun f' S'=>WR E n ops l f' S' Q)
def retL(E:Env)(n:Nat)(ops:Array Oper)(l:List Oper)(dst:Option Tmp)(f:Fr)(Q:O→Prop):R→Prop:=retW n f dst (fun f' S'=>WL E n ops l f' S' Q) Q
def jP(E:Env)(n:Nat)(ops:Array Oper)(l:List RS)(dst:Option Tmp)(f:Fr)(Q:O→Prop):R→Prop:=retW n f dst (fun f' S'=>WR E n ops l f' S' Q) Q
def fixQ(ops:Array Oper)(f:Fr)(Q:O→Prop):O→Prop:=fun r=>Q (Tm ⟨Gf ops.toList f.tmps,f.dfr⟩ r)
section
variable {E:Env} {n:Nat} {f:Fr} {S:St} {Q:O → Prop} {ops:Array Oper} {t:T AV} {ds:List Dfr}
theorem Db:W E n .skip f S Q=Q (.out .normal f S):=by unfold W;rfl
theorem Bz{id:Nat}:W E n (.region id ops false) f S Q=WL E n ops ops.toList f S Q:=by unfold W;rfl
theorem Eh{id:Nat}:W E n (.region id ops true) f S Q=WD E n ops f S Q:=by unfold W;rfl
theorem Dz{a b:Code}:W E n (.seq a b) f S Q=W E n a f S (nL E n b Q):=by show W E n (.seq a b) f S Q=W E n a f S (Va (fun f S=>W E n b f S Q) Q);conv=>lhs;unfold W
theorem Dr{c:Operand}{x y:Code}:W E n (.cond c x y) f S Q=Xt (A6 E.G f.tmps c) (W E n x f S Q) (W E n y f S Q):=by conv=>lhs;unfold W
theorem Dc{id:Nat}{c:Code}:W E n (.block id c) f S Q=W E n c f S (On id Q):=by conv=>lhs;unfold W
theorem Iq{c:Code}:W E n (.loop c) f S Q=WX E n (.loop c) f S Q:=by unfold W;rfl
theorem Hj{id:Nat}:W E n (.exit id) f S Q=Q (.out (.exit id) f S):=by unfold W;rfl
theorem Dl:W E n .ret f S Q=Q (.out .ret f S):=by unfold W;rfl
theorem E8{b:Code}:nL E n b Q (.out .normal f S)=W E n b f S Q:=rfl
theorem Er{b:Code}{id:Nat}:nL E n b Q (.out (.exit id) f S)=Q (.out (.exit id) f S):=rfl
theorem F8{b:Code}:nL E n b Q (.out .ret f S)=Q (.out .ret f S):=rfl
theorem A9{b:Code}{a:AV}:nL E n b Q (.out (.pan a) f S)=Q (.out (.pan a) f S):=rfl
theorem Cq{id:Nat}:On id Q (.out .normal f S)=Q (.out .normal f S):=rfl
theorem Fk{id:Nat}:On id Q (.out .ret f S)=Q (.out .ret f S):=rfl
theorem Df{id:Nat}{a:AV}:On id Q (.out (.pan a) f S)=Q (.out (.pan a) f S):=rfl
theorem Ea{id id':Nat}:On id Q (.out (.exit id') f S)=if id' = id then Q (.out .normal f S)else Q (.out (.exit id') f S):=rfl
theorem Ky:WL E n ops [] f S Q=Q (.out .normal f S):=rfl
theorem B1{o:Oper}{l:List Oper}:WL E n ops (o :: l) f S Q=Si E n ops o l f S Q (Bc ops o f.tmps) (Bg E f.tmps S o):=by
 show Zo E n ops o f S (fun f' S'=>WL E n ops l f' S' Q) Q=_
 unfold Zo
 cases Bc ops o f.tmps with
 |none=>rfl
 |some b=>cases b <;> rfl
theorem J4{o:Oper}{l:List Oper}{x:OR}:Si E n ops o l f S Q (some false) x=Yo E n ops l o.dst f (.tup []) S Q:=by cases x <;> rfl
theorem By{o:Oper}{l:List Oper}{a:AV}{S':St}:Si E n ops o l f S Q (some true) (.val a S')=Yo E n ops l o.dst f a S' Q:=rfl
theorem B3{o:Oper}{l:List Oper}{S':St}:Si E n ops o l f S Q (some true) (.skip S')=Yo E n ops l o.dst f (.tup []) S' Q:=rfl
theorem Bv{o:Oper}{l:List Oper}{k:FuncId}{args:List AV}{S':St}:Si E n ops o l f S Q (some true) (.enter k args S')=WC E k args S' (retL E n ops l o.dst f Q):=rfl
theorem lO{o:Oper}{l:List Oper}{fn:Fn}{caps args:List AV}{S':St}:Si E n ops o l f S Q (some true) (.dfr fn caps args S')=Yo E n ops l o.dst { f with dfr:=⟨fn,caps,args⟩ :: f.dfr } (.tup []) S' Q:=rfl
theorem J8{o:Oper}{l:List Oper}{a:AV}{S':St}:Si E n ops o l f S Q (some true) (.pan a S')=Q (.out (.pan a) f S'):=rfl
theorem Cc{l:List Oper}{a:AV}:Yo E n ops l none f a S Q=WL E n ops l f S Q:=rfl
theorem Bu{l:List Oper}{d:Nat}{a:AV}:Yo E n ops l (some d) ⟨t,ds⟩ a S Q=(d<n∧WL E n ops l ⟨t.set d (some a),ds⟩ S Q):=rfl
theorem Cd{l:List Oper}{dst:Option Tmp}{a:AV}:retL E n ops l dst f Q (.ret a S)=Yo E n ops l dst f a S Q:=rfl
theorem Bf{l:List Oper}{dst:Option Tmp}{a:AV}:retL E n ops l dst f Q (.pan a S)=Q (.out (.pan a) f S):=rfl
theorem gY:WR E n ops [] f S Q=Q (.out .normal f S):=rfl
theorem Ir{o:Oper}{l:List RS}:WR E n ops (.op o :: l) f S Q=Vn E n ops o l f S Q (Bc ops o f.tmps) (Bg E f.tmps S o):=by
 show Zo E n ops o f S (fun f' S'=>WR E n ops l f' S' Q) Q=_
 unfold Zo
 cases Bc ops o f.tmps with
 |none=>rfl
 |some b=>cases b <;> rfl
theorem gX{o:Oper}{l:List RS}:WR E n ops (.re o :: l) f S Q=(Ez E ops o f.tmps S=true∧WR E n ops l f S Q):=rfl
theorem fN{o:Oper}{l:List RS}{x:OR}:Vn E n ops o l f S Q (some false) x=Tb E n ops l o.dst f (.tup []) S Q:=by cases x <;> rfl
theorem I1{o:Oper}{l:List RS}{a:AV}{S':St}:Vn E n ops o l f S Q (some true) (.val a S')=Tb E n ops l o.dst f a S' Q:=rfl
theorem Jv{o:Oper}{l:List RS}{S':St}:Vn E n ops o l f S Q (some true) (.skip S')=Tb E n ops l o.dst f (.tup []) S' Q:=rfl
theorem Km{o:Oper}{l:List RS}{k:FuncId}{args:List AV}{S':St}:Vn E n ops o l f S Q (some true) (.enter k args S')=WC E k args S' (jP E n ops l o.dst f Q):=rfl
theorem execR_pan{o:Oper}{l:List RS}{a:AV}{S':St}:Vn E n ops o l f S Q (some true) (.pan a S')=Q (.out (.pan a) f S'):=rfl
theorem Js{l:List RS}{a:AV}:Tb E n ops l none f a S Q=WR E n ops l f S Q:=rfl
theorem Hw{l:List RS}{d:Nat}{a:AV}:Tb E n ops l (some d) ⟨t,ds⟩ a S Q=(d<n∧WR E n ops l ⟨t.set d (some a),ds⟩ S Q):=rfl
theorem M8{l:List RS}{dst:Option Tmp}{a:AV}:jP E n ops l dst f Q (.ret a S)=Tb E n ops l dst f a S Q:=rfl
theorem Ht{l:List RS}{dst:Option Tmp}{a:AV}:jP E n ops l dst f Q (.pan a S)=Q (.out (.pan a) f S):=rfl
theorem Fi{x y:Prop}:Xt (some (.v (.bool true))) x y=x:=rfl
theorem Ew{x y:Prop}:Xt (some (.v (.bool false))) x y=y:=rfl
theorem H9{g:Fr}:fixQ ops g Q (.out .normal f S)=Q (.out .normal f S):=rfl
theorem I5{g:Fr}{a:AV}:fixQ ops g Q (.out (.pan a) f S)=Q (.out (.pan a) ⟨Gf ops.toList g.tmps,g.dfr⟩ S):=rfl
theorem Dd(l:List (Nat × Bool))(h2:Rp ops (bm ops.toList []) (Kp ops (bm ops.toList []) ops.size (List.range ops.size) 0)=true)
  (h3:Lm ops (bm ops.toList []) (Kp ops (bm ops.toList []) ops.size (List.range ops.size) 0) []=some (Mp ops l)) (h:WR E n ops (Mp ops l) f S (fixQ ops f Q)):WD E n ops f S Q:=WD_steps h3 h2 h
theorem WD_byFl(l:List (Nat × Bool)){x:FlP}(h1:Ol E.P ops=some x)(h2:Re ops x=some (Mp ops l))(h3:x.d<n)(h:WR E n ops (Mp ops l) ⟨f.tmps.set x.d none,f.dfr⟩ S (fixQ ops f Q)):WD E n ops f S Q:=WD_fl h1 h2 h3 h
theorem Bm{rs:List ResultVar}{Q:R→Prop}:U6 E rs Q (.out .ret f S)=Cm E rs f S Q:=rfl
theorem vB{rs:List ResultVar}{Q:R→Prop}:U6 E rs Q (.out .normal f S)=Cm E rs f S Q:=rfl
theorem A7{rs:List ResultVar}{Q:R→Prop}{a:AV}:U6 E rs Q (.out (.pan a) ⟨t,[]⟩ S)=Q (.pan a S):=by show(_∧_)=_;simp
end
end Go.Ax
noncomputable section
namespace Go.Ax
open Go.RowKit
def Gh.below(γ:Gh)(n:Nat):Gh:={ γ with loc:=fun i=>if i<n then γ.loc i else none }
def AV.old(n:Nat):AV→Prop
 |.v _=>True
 |_=>False
theorem Aa.{u}{α:Sort u}{x:Decidable True}(t e:α):(if True then t else e)=t:=if_true t e
theorem Ab.{u}{α:Sort u}{x:Decidable False}(t e:α):(if False then t else e)=e:=if_false t e
theorem Ac(p:Prop):(True∧p)=p:=true_and p
theorem Ad(p:Prop):(p∧True)=p:=and_true p
theorem Ae.{u}{α:Type u}{a b:α}:(some a).getD b=a:=Option.getD_some
theorem Af.{u}{α:Type u}{xs:List α}{i:Nat}:xs.toArray[i]? = xs[i]?:=List.getElem?_toArray
theorem Ag.{u}{α:Type u}{a:α}{i:Nat}{l:List α}:(a :: l)[i+1]? = l[i]?:=List.getElem?_cons_succ
theorem Ah.{u}{α:Type u}{a:α}{l:List α}:(a :: l)[0]? = some a:=List.getElem?_cons_zero
theorem Ai.{u,v}{α:Type u}{β:Type v}(a:α)(f:α→Option β):(some a).bind f=f a:=Option.bind_some a f
theorem Aj.{u}{α:Type u}(l:List α):[] ++ l=l:=List.nil_append l
theorem Ak.{u}{α:Type u}(l:List α):l ++ []=l:=List.append_nil l
theorem Al.{u}{α:Type u}[BEq α][ReflBEq α](a:α):(a == a)=true:=beq_self_eq_true a
theorem Am:(false=true)=False:=Bool.false_eq_true
theorem Ap(h:Decidable True):@decide True h=true:=decide_true h
theorem Aq(h:Decidable False):@decide False h=false:=decide_false h
theorem Ar:(!true)=false:=Bool.not_true
theorem Au:(!false)=true:=Bool.not_false
theorem Av(b:Bool):(false == b)=!b:=Bool.false_beq b
theorem Aw(b:Bool):(true == b)=b:=Bool.true_beq b
theorem Ay.{u}{α:Type u}{a:α}{l:List α}:(a :: l).head? = some a:=List.head?_cons
theorem Az.{u}{α:Type u}:([]:List α).head? = none:=List.head?_nil
theorem A0{α:Type}(t:T α)(n m:Nat)(x:Option α):(t.set n x).get m=if m=n then x else t.get m:=T.get_set t n m x
theorem A1{α:Type}(n:Nat):(T.leaf:T α).get n=none:=T.get_leaf n
end Go.Ax
noncomputable section
namespace Go.Ax
open Go.RowKit Go.Proofs
def Vi(sz:Nat)(args:List AV)(S:St):R:=match args with
 | [.nils,.v (.int .i64 n)]=>if n=0 then .ret .nils S else if 0<n∧n≤3000∧0<sz then .ret (.sl S.next 0 sz []) ⟨S.next+1,S.mem.set S.next (some (.tip 0))⟩else .fail
 |_=>.fail
theorem growI_ok{P:Program}{k:FuncId}{sz e:Nat}(h0:∀w,Calls P k #[.slice none 0 0,.int .i64 0] w fun x w'=>x=.returned (.slice none 0 0)∧w' = w)
  (h1:∀(n:Nat) (w:World),0<n→n≤3000→Calls P k #[.slice none 0 0,.int .i64 n] w fun x w'=>∃c,x=.returned (.slice (some ⟨w.heap.size,0,none⟩) 0 c)∧w'.ownsRow w.heap.size e sz (.slice (some ⟨w.heap.size,0,none⟩) 0 c) 0 []∧Below w.heap.size w w')
  (base:Nat) (w0:World) (args:List AV) (S:St) (hne:Vi sz args S≠.fail) (γ:Gh) (w:World) (vs:List Value) (hS:SR base w0 γ S w) (hv:VRL γ w args vs):Calls P k vs.toArray w (Kc base w0 γ S w (Vi sz args S)):=by
 generalize hr:Vi sz args S=r at hne ⊢;unfold Vi at hr
 split at hr
 ·rename_i n
  obtain⟨x,y,rfl,hx,hy⟩:=hv.two;cases hx;cases hy
  split at hr
  ·rename_i hn
   subst hn;subst hr;refine(h0 w).mono fun x w' ⟨hx,hw⟩=>?_
   subst hx;subst hw;exact⟨γ,_,hS,.refl _ _ _,.nils,rfl⟩
  ·split at hr
   ·rename_i hn
    obtain⟨n1,n2,n3⟩:=hn;subst hr;have:=h1 n.toNat w (by omega) (by omega)
    rw[show((n.toNat:Nat):Int)=n by omega]at this
    refine this.mono fun x w' ⟨c,hx,hown,hb⟩=>?_
    subst hx;obtain⟨k1,k2⟩:=hS.after hb;rcases hown.2 with⟨hnil,_⟩ | ⟨g,cap,cur,hg,hlo,hcur,hc1,hc2,hc3,hc4⟩
    ·cases hnil
    ·injection hg with hg1 hg2 hg3
     injection hg1 with hg1
     injection hg1 with hg1
     subst hg3;subst hg1;have hlt:w.heap.size<w'.heap.size:=(Jb9.1 hcur).1;have hf:=k1.fresh S.next (Ja1 _)
     have hnew:∀id c s',S.mem.get id=some c→γ.loc id≠some (w.heap.size,s'):=fun id c s' hm hl=>by
      have:=hS.inb id _ _ hl;omega
     obtain⟨j1,j2⟩:=k1.name w.heap.size 0 (.tip 0) hS.hbase hlt ⟨cur,e,hcur,fun o ho=>by have:=Y2 hS ho;omega,Nat.zero_le _⟩ hnew
     have hx2:=k2.newName (s:=0) (c:=.tip 0) hf.1 hf.2 rfl;refine⟨γ.withLoc S.next w.heap.size 0,_,j1,hx2,?_,rfl⟩;refine .sl S.next 0 sz [] w.heap.size 0 c (fun _=>undef) n3 (fun _ h=>absurd h Ja7) (fun _ h=>absurd h Ja7) (fun k h=>absurd h (Jb3 k)) (fun k h=>absurd h (Jb3 k)) (fun _=>⟨0,?_,rfl⟩) (fun h=>?_) (Nat.zero_le _) ⟨cur,e,(0,0),hcur,by omega⟩
     ·show(if S.next=S.next then _ else _)=_;rw[if_pos rfl]
     ·have:=hS.pos;omega
   ·exact absurd hr.symm hne
 ·exact absurd hr.symm hne
theorem uC:(Tryz.prog.info? 162).map (fun i=>(i.zero,i.size,i.bytes))=some (some (.agg #[.string ⟨#[]⟩,.int .i64 0,.bool false,.bool false,.string ⟨#[]⟩,.bool false]),6,56):=by kernel_rfl
theorem cB:Tryz.prog.underlying 35=some (.slice 162):=by kernel_rfl
theorem G1{P:Program}{t:TypeId}{z:Option Value}{s b:Nat}(h:(P.info? t).map (fun i=>(i.zero,i.size,i.bytes))=some (z,s,b)):∃i,P.info? t=some i∧i.zero=z∧i.size=s∧i.bytes=b:=by
 cases hi:P.info? t with
 |none=>rw[hi]at h;cases h
 |some i =>
  rw[hi]at h;simp only[Option.map_some,Option.some.injEq,Prod.mk.injEq]at h;exact⟨i,rfl,h.1,h.2.1,h.2.2⟩
set_option maxRecDepth 100000 in
theorem grow_none(w:World):Calls Tryz.prog 195 #[.slice none 0 0,.int .i64 0] w fun e w'=>e=.returned (.slice none 0 0)∧w' = w:=by
 go_enter Tryz.func195,Tryz.ntmps195
 go_wp2_with fail
 go_ret
 exact⟨rfl,rfl⟩
set_option maxRecDepth 100000 in
theorem grow_some(n:Nat)(w:World)(h0:0<n)(hn:n≤3000):
  Calls Tryz.prog 195 #[.slice none 0 0,.int .i64 n] w fun e w'=>∃c,e=.returned (.slice (some ⟨w.heap.size,0,none⟩) 0 c)∧w'.ownsRow w.heap.size 162 6 (.slice (some ⟨w.heap.size,0,none⟩) 0 c) 0 []∧Below w.heap.size w w':=by
 obtain⟨i0,hi,hz0,hz1,hz2⟩:=G1 uC
 have hrz:∀ty,(Builtin.append_ #[35,3] ty #[.slice none 0 0,.int .i64 ((n:Nat):Int)]).run Tryz.prog w =
   .ok (.slice (some ⟨w.heap.size,0,none⟩) n (grownCap w n 0 162)) (w.drew.alloc (.cells (#[] ++ Builtin.zeroCells (Value.cells (.agg #[.string ⟨#[]⟩,.int .i64 0,.bool false,.bool false,.string ⟨#[]⟩,.bool false])) n ++ Builtin.zeroCells (Value.cells (.agg #[.string ⟨#[]⟩,.int .i64 0,.bool false,.bool false,.string ⟨#[]⟩,.bool false])) (grownCap w n 0 162 - n)) 162)):=fun ty=>by
  have h:=Lib.run_append_grow_zeros w 35 3 ty 162 i0 _ .i64 .i64 cB Tryz.underlying3 hi hz0 none 0 0 [] (by rw[hz1];exact run_firstCells_none w.drew 6 0 0 0) n h0 (by omega) (by omega) (by omega) (by rw[hz2];omega)
   (growslice_fits (by omega) (by rw[hz2];omega))
  simpa using h
 have hG1:=N7 w n 0 162;have hG2:=grownCap_le_maxLen w n 0 162 (by unfold maxLen;omega)
 obtain⟨G,hG⟩:∃G,G=grownCap w n 0 162:=⟨_,rfl⟩;rw[← hG]at hrz hG1 hG2;clear hG;have h4:((n:Int) > 0):=by omega
 unfold maxLen at hG2
 go_enter Tryz.func195,Tryz.ntmps195
 go_wp2_with (at_builtin;refine Lib.wpList_append_run _ rfl _ _ _ _ rfl _ _ rfl rfl _ _ (hrz _) ?_)
 all_goals
  go_ret
  refine⟨G,rfl,World.ownsRow_made w.drew _ G (Ja1 _) (by unfold maxLen;omega) ?_,((Below.refl _ _).drew).alloc (Ja1 _) _⟩
  simp only[Array.size_append,size_zeroCells];simp[Value.cells];omega
theorem grow_I(base:Nat)(w0:World)(args:List AV)(S:St)(hne:Vi 6 args S≠.fail)(γ:Gh)(w:World)(vs:List Value)(hS:SR base w0 γ S w)(hv:VRL γ w args vs):Calls Tryz.prog 195 vs.toArray w (Kc base w0 γ S w (Vi 6 args S)) :=
 growI_ok grow_none (fun n w h0 h1=>grow_some n w h0 h1) base w0 args S hne γ w vs hS hv
end Go.Ax
noncomputable section
namespace Go.Ax
open Go.RowKit Go.Proofs
set_option maxRecDepth 100000
def Fz:Nat→List UInt8→Nat
 |a,[]=>a
 |a,c :: r=>Fz (a*10+(c.toNat - 48)) r
def V5(b:UInt8):Bool:=48≤b.toNat && b.toNat≤57
def puI(args:List AV):Option AV:=match args with
 | [.v (.string s),.v (.int .i64 10),.v (.int .i64 64)]=>if s.data.toList≠[]∧s.data.toList.all V5=true∧Fz 0 s.data.toList<18446744073709551616∧s.size≤9223372036854775806 then some (.tup [.v (.int .u64 (Fz 0 s.data.toList)),.v .nilIface])
  else if s.data.toList≠[]∧s.data.toList.all V5=true∧18446744073709551616≤Fz 0 s.data.toList∧s.size≤281474976710656 then some (.tup [.v (.int .u64 18446744073709551615),.iface 358 (.ep [])])else none
 |_=>none
def gR:Gl:=fun g=>Bool.rec none (some [.iface 369 (.ep [])]) (Nat.beq g 5)
def rowM(t:Nat):Nat:=Bool.rec (Bool.rec (Bool.rec (Bool.rec 0 2 (Nat.beq t 148)) 2 (Nat.beq t 146)) 1 (Nat.beq t 36)) 1 (Nat.beq t 55)
def E1:Env:={ P:=Tryz.prog,G:=gR,F:=fun k=>match Tryz.prog.funcs[k]? with |some fn=>if fn.body.isSome then some fn else none |none=>none,I:=fun k=>Bool.rec (Bool.rec none (some (Vi 6)) (Nat.beq k 195)) (some (Gq puI)) (Nat.beq k 240),M:=rowM }
theorem e1_names:(Tryz.prog.funcs.toList.all fun fn=>!(fn.name == "runtime.NumGoroutine"))=true:=by kernel_rfl
theorem Kr:E1.Ok:=⟨fun k fn h=>by
 simp only[E1]at h
 split at h
 ·rename_i fn' hf
  split at h
  ·rename_i hb
   injection h with h;subst h
   have hm:fn'∈Tryz.prog.funcs.toList:=by
    have:=Array.mem_of_getElem? hf
    simpa using this
   have:=Jb6.1 e1_names fn' hm;exact⟨hf,by simpa using this,Jc0.1 hb⟩
  ·cases h
 ·cases h⟩
theorem numV_ge:∀(l:List UInt8) (a:Nat),a≤Fz a l
 | [],a=>Ja1 _
 |c :: r,a=>by
  have:=numV_ge r (a*10+(c.toNat - 48))
  show a≤Fz (a*10+(c.toNat - 48)) r
  omega
theorem kC:∀(l:List UInt8) (a:Nat),l.all V5=true→Fz a l<18446744073709551616→Lib.parseUintM (2 ^ 64 - 1) a l=.ok (Fz a l)
 | [],a,_,_=>rfl
 |c :: r,a,hd,h=>by
  rw[List.all_cons,Ja2]at hd;have hc:48≤c.toNat∧c.toNat≤57:=by have:=hd.1;unfold V5 at this;simpa using this
  have h1:a*10+(c.toNat - 48)≤Fz (a*10+(c.toNat - 48)) r:=numV_ge r _;have h2:Fz a (c :: r)=Fz (a*10+(c.toNat - 48)) r:=rfl;rw[h2]at h ⊢;unfold Lib.parseUintM;rw[if_pos hc,if_neg (by omega),if_neg (by omega)]
  exact kC r _ hd.2 h
theorem parse_ok{l:List UInt8}(hn:l≠[])(hd:l.all V5=true)(h:Fz 0 l<18446744073709551616):Lib.parseUintB 64 l=.ok (Fz 0 l):=by
 unfold Lib.parseUintB;rw[if_neg hn];exact kC l 0 hd h
theorem Wz:∀(l:List UInt8) (a:Nat),l.all V5=true→a<18446744073709551616→18446744073709551616≤Fz a l→Lib.parseUintM (2 ^ 64 - 1) a l=.range
 | [],a,_,h1,h2=>absurd h1 (Nat.not_lt.2 h2)
 |c :: r,a,hd,h1,h=>by
  rw[List.all_cons,Ja2]at hd;have hc:48≤c.toNat∧c.toNat≤57:=by have:=hd.1;unfold V5 at this;simpa using this
  have h2:Fz a (c :: r)=Fz (a*10+(c.toNat - 48)) r:=rfl;rw[h2]at h;unfold Lib.parseUintM;rw[if_pos hc]
  by_cases h3:1844674407370955162≤a
  ·rw[if_pos h3]
  ·rw[if_neg h3]
   by_cases h4:2 ^ 64 - 1<a*10+(c.toNat - 48)
   ·rw[if_pos h4]
   ·rw[if_neg h4]
    exact Wz r _ hd.2 (by omega) h
theorem tA{l:List UInt8}(hn:l≠[])(hd:l.all V5=true)(h:18446744073709551616≤Fz 0 l):Lib.parseUintB 64 l=.range:=by
 unfold Lib.parseUintB;rw[if_neg hn];exact Wz l 0 hd (by decide) h
theorem VRL.three{γ:Gh}{w:World}{a b c:AV}{vs:List Value}(h:VRL γ w [a,b,c] vs):∃x y z,vs=[x,y,z]∧VR γ w a x∧VR γ w b y∧VR γ w c z:=by
 obtain⟨h1,h2⟩:=h
 match vs,h1 with
 | [x,y,z],_=>exact⟨x,y,z,rfl,h2 0 (by simp) (by simp),h2 1 (by simp) (by simp),h2 2 (by simp) (by simp)⟩
theorem gR_cell{γ:Gh}{w:World}(h:GR γ w gR):∃p,w.cell? ⟨5,0,none⟩=some (.iface 369 p):=by
 have:=(h 5 _ rfl).1
 cases this with
 |ep cs b o c h h1 hr =>
  have h2:=(h 0 (by simp)).2
  have h3:=hr 0 (by simp)
  simp only[List.getElem_cons_zero,Nat.add_zero]at h2 h3;generalize c 0=z at h2 h3
  cases h3 with
  |iface t a x h4=>exact⟨x,h2⟩
theorem puI_ok:∀args a,puI args=some a→∀γ w (vs:List Value),GR γ w gR→VRL γ w args vs→Calls Tryz.prog 240 vs.toArray w fun e w'=>Below w.heap.size w w'∧∃v,e=.returned v∧∀γ w,VR γ w a v:=by
 intro args a h γ w vs hg hv;unfold puI at h
 split at h
 ·rename_i s
  obtain⟨x,y,z,rfl,hx,hy,hz⟩:=hv.three;cases hx;cases hy;cases hz
  split at h
  ·rename_i hc
   obtain⟨h0,h1,h2,h3⟩:=hc;injection h with h;subst h
   refine(Tryz.strconv_ParseUint_10_at64_ok s h3 _ (parse_ok h0 h1 h2) w).mono fun e w' he=>⟨?_,_,he.1,fun γ w=>?_⟩
   ·rcases he.2 with rfl |rfl
    ·exact .refl _ _
    ·exact Lib.bytesWorld_below _ _ _
   ·exact .tup _ _ rfl (fun k hk hk'=>by
     match k,hk with
     |0,_=>exact .v _ rfl
     |1,_=>exact .v _ rfl)
  ·split at h
   ·rename_i hc
    obtain⟨h0,h1,h2,h3⟩:=hc;injection h with h;subst h
    obtain⟨p,hp⟩:=gR_cell hg;refine(Tryz.strconv_ParseUint_10_at64_range s h3 (tA h0 h1 h2) _ w hp (.inr ⟨_,_,rfl⟩)).mono fun e w' he=>?_
    obtain⟨N,he1,he2,he3,he4⟩:=he;refine⟨he4,_,he1,fun γ w=>?_⟩
    exact .tup _ _ rfl (fun k hk hk'=>by
     match k,hk with
     |0,_=>exact .v _ rfl
     |1,_=>exact .iface _ _ _ (.ep [] N 0 (fun _=>undef) (fun k h=>absurd h (Jb3 k)) (fun _ h=>absurd h Ja7) (fun k h=>absurd h (Jb3 k))))
   ·cases h
 ·cases h
theorem P7:G8 E1:=fun k g hk base w0 args S hne γ w vs hS hg hv=>by
 have hk2:(Bool.rec (Bool.rec none (some (Vi 6)) (Nat.beq k 195)) (some (Gq puI)) (Nat.beq k 240):Option (List AV→St→R))=some g:=hk
 cases hb:Nat.beq k 240 with
 |false =>
  rw[hb]at hk2
  cases hc:Nat.beq k 195 with
  |false=>rw[hc]at hk2;cases hk2
  |true =>
   rw[hc]at hk2;injection hk2 with hk2;subst hk2
   have:k=195:=Jc1 hc;subst this;exact grow_I base w0 args S hne γ w vs hS hv
 |true =>
  rw[hb]at hk2;injection hk2 with hk2;subst hk2
  have:k=240:=Jc1 hb;subst this
  cases hga:puI args with
  |none=>exact absurd (by simp[Gq,hga]) hne
  |some a =>
   refine(puI_ok args a hga γ w vs hg hv).mono fun e w' h=>?_
   obtain⟨hb,v,rfl,hvr⟩:=h;obtain⟨h1,h2⟩:=hS.after hb
   show Kc base w0 γ S w (Gq puI args S) (.returned v) w'
   simp only[Gq,hga];exact⟨γ,v,h1,h2,hvr _ _,rfl⟩
theorem Ks:E1.P.follows .mixedOrders=true:=by kernel_rfl
theorem fX(k:FuncId)(h:(E1.F k).isSome=true:=by kernel_rfl):∃fn,E1.F k=some fn:=Jc0.1 h
section
attribute [local go_sem] Bool.false_beq Bool.false_eq_true Bool.not_true Bool.true_beq List.append_nil List.getElem?_cons_succ List.getElem?_cons_zero List.getElem?_toArray List.nil_append Option.bind_some Option.getD_some T.get_leaf T.get_set B1 Ky Bz Dl Dz and_true beq_self_eq_true Ct decide_false decide_true A6 Bg J4 By Bm Cm if_false if_true Cx C9 Bo ofOpt Bu Ba Cd E8 D8 Bc
theorem Ff:E1.P=Tryz.prog:=rfl
theorem Ms:E1.G=gR:=rfl
theorem Em(a b:AV):Ha Tryz.prog 3 a b=false:=by unfold Ha;rw[Tryz.underlying3]
theorem Iy(a b:AV):Ha Tryz.prog 5 a b=false:=by
 have h:Tryz.prog.underlying 5=some (.int .u8):=rfl;unfold Ha;rw[h]
theorem Jk(k:IntKind)(x y:Int):Cv .lss (.v (.int k x)) (.v (.int k y))=some (.v (.bool (decide (x<y)))):=by simp[Cv]
theorem Ml(k:IntKind)(x y:Int):Cv .leq (.v (.int k x)) (.v (.int k y))=some (.v (.bool (decide (x≤y)))):=by simp[Cv]
theorem Ls(k:IntKind)(x y:Int):Cv .gtr (.v (.int k x)) (.v (.int k y))=some (.v (.bool (decide (x > y)))):=by simp[Cv]
theorem Qj(k:IntKind)(x y:Int):Cv .geq (.v (.int k x)) (.v (.int k y))=some (.v (.bool (decide (x ≥ y)))):=by simp[Cv]
theorem Ja(k:IntKind)(x y:Int):Cv .add (.v (.int k x)) (.v (.int k y))=some (.v (.int k (k.wrap (x+y)))):=by simp[Cv]
theorem Fb(k:IntKind)(x y:Int):Cv .neq (.v (.int k x)) (.v (.int k y))=some (.v (.bool (x != y))):=by simp[Cv]
theorem D6(k:IntKind)(x y:Int):Cv .eql (.v (.int k x)) (.v (.int k y))=some (.v (.bool (x == y))):=by simp[Cv]
def Dp(b:UInt8):Bool:=(65≤b.toNat && b.toNat≤90) || (97≤b.toNat && b.toNat≤122) || b.toNat == 95
def Bi(b:UInt8):Bool:=48≤b.toNat && b.toNat≤57
def Cf(b:UInt8):Bool:=b.toNat == 32 || b.toNat == 9 || b.toNat == 10
def Hf(b:UInt8):Bool:=!(b.toNat == 10)
def Bq(b:UInt8):Bool:=Dp b || Bi b
theorem pK(b:UInt8)(S:St):WC E1 211 [G3 b] S (fun r=>r=.ret (.v (.bool (Bi b))) S):=by
 refine WCk Tryz.f211 ?_;unfold G3
 by_cases h1:(48:Int)≤(b.toNat:Int)
 ·by_cases h2:(b.toNat:Int)≤57
  ·have e:Bi b=true:=by unfold Bi;simp;omega
   simp only[go_sem,Ff,Ml,reduceLT,reduceEqDiff,Tryz.f211,Iy,h1,h2,e]
  ·have e:Bi b=false:=by unfold Bi;simp;omega
   simp only[go_sem,Ff,Ml,reduceLT,reduceEqDiff,Tryz.f211,Iy,h1,h2,e]
 ·have e:Bi b=false:=by unfold Bi;simp;omega
  simp only[go_sem,Ff,Ms,Ml,reduceLT,reduceEqDiff,Tryz.f211,Iy,h1,e]
theorem blank_w(b:UInt8)(S:St):WC E1 207 [G3 b] S (fun r=>r=.ret (.v (.bool (Cf b))) S):=by
 refine WCk Tryz.f207 ?_;unfold G3;have n1:(((b.toNat:Int) == 32)=(b.toNat == 32)):=by rw[Bool.eq_iff_iff];simp;omega
 have n2:(((b.toNat:Int) == 9)=(b.toNat == 9)):=by rw[Bool.eq_iff_iff];simp;omega
 have n3:(((b.toNat:Int) == 10)=(b.toNat == 10)):=by rw[Bool.eq_iff_iff];simp;omega
 cases h1:(b.toNat == 32)
 ·cases h2:(b.toNat == 9)
  ·have e:Cf b=(b.toNat == 10):=by unfold Cf;rw[h1,h2];rfl
   simp only[go_sem,Ff,D6,reduceLT,reduceEqDiff,Tryz.f207,Iy,n1,n2,n3,h1,h2,e]
  ·have e:Cf b=true:=by unfold Cf;rw[h1,h2];rfl
   simp only[go_sem,Ff,Ms,D6,reduceLT,reduceEqDiff,Tryz.f207,Iy,n1,n2,h1,h2,e]
 ·have e:Cf b=true:=by unfold Cf;rw[h1];rfl
  simp only[go_sem,Ff,Ms,D6,reduceLT,reduceEqDiff,Tryz.f207,Iy,n1,h1,e]
theorem notEnd_w(b:UInt8)(S:St):WC E1 208 [G3 b] S (fun r=>r=.ret (.v (.bool (Hf b))) S):=by
 refine WCk Tryz.f208 ?_;unfold G3;have n3:(((b.toNat:Int) != 10)=Hf b):=by unfold Hf;rw[Bool.eq_iff_iff];simp;omega
 simp only[go_sem,Ff,Fb,reduceLT,reduceEqDiff,Tryz.f208,Iy,n3]
theorem tT(b:UInt8)(S:St):WC E1 209 [G3 b] S (fun r=>r=.ret (.v (.bool (Dp b))) S):=by
 refine WCk Tryz.f209 ?_;unfold G3;have n5:(((b.toNat:Int) == 95)=(b.toNat == 95)):=by rw[Bool.eq_iff_iff];simp;omega
 have key:∀(p q:Bool),(65≤b.toNat && b.toNat≤90)=p→(97≤b.toNat && b.toNat≤122)=q→Dp b=(p || q || b.toNat == 95):=fun p q h1 h2=>by unfold Dp;rw[h1,h2]
 by_cases h1:(65:Int)≤(b.toNat:Int)
 ·by_cases h2:(b.toNat:Int)≤90
  ·have e:=key true (97≤b.toNat && b.toNat≤122) (by simp;omega) rfl
   simp only[Bool.true_or]at e;simp only[go_sem,Ff,Ms,Ml,reduceLT,reduceEqDiff,Tryz.f209,Iy,h1,h2,e]
  ·by_cases h3:(97:Int)≤(b.toNat:Int)
   ·by_cases h4:(b.toNat:Int)≤122
    ·have e:=key false true (by simp;omega) (by simp;omega)
     simp only[Bool.or_true,Bool.true_or]at e;simp only[go_sem,Ff,Ms,Ml,reduceLT,reduceEqDiff,Tryz.f209,Iy,h1,h2,h3,h4,e]
    ·have e:=key false false (by simp;omega) (by simp;omega)
     simp only[Bool.or_false,Bool.false_or]at e;simp only[go_sem,Ff,Ml,D6,reduceLT,reduceEqDiff,Tryz.f209,Iy,n5,h1,h2,h3,h4,e]
   ·have e:=key false false (by simp;omega) (by simp;omega)
    simp only[Bool.or_false,Bool.false_or]at e;simp only[go_sem,Ff,Ms,Ml,D6,reduceLT,reduceEqDiff,Tryz.f209,Iy,n5,h1,h2,h3,e]
 ·have h3:¬ (97:Int)≤(b.toNat:Int):=by omega
  have e:=key false false (by simp;omega) (by simp;omega)
  simp only[Bool.or_false,Bool.false_or]at e;simp only[go_sem,Ff,Ms,Ml,D6,reduceLT,reduceEqDiff,Tryz.f209,Iy,n5,h1,h3,e]
theorem wordB_w(b:UInt8)(S:St):WC E1 238 [G3 b] S (fun r=>r=.ret (.v (.bool (Bq b))) S):=by
 refine WCk Tryz.f238 ?_;obtain⟨fn1,hf1⟩:=fX 209;obtain⟨fn2,hf2⟩:=fX 211;simp only[go_sem,Bv,reduceLT,reduceEqDiff,Ac,Tryz.f238,hf1];refine WC.mono (tT b S) ?_;rintro _ rfl;cases h:Dp b
 ·simp only[go_sem,Bv,reduceLT,reduceEqDiff,Ac,hf2]
  refine WC.mono (pK b S) ?_;rintro _ rfl;have e:Bq b=Bi b:=by unfold Bq;rw[h];rfl
  simp only[go_sem,reduceLT,reduceEqDiff,e]
 ·have e:Bq b=true:=by unfold Bq;rw[h];rfl
  simp only[go_sem,reduceLT,reduceEqDiff,hf2,e]
end
section
attribute [local go_sem] Bool.false_eq_true T.get_set B1 Ky Dc Dr Hj Bz Dz Db Cq Ff A6 Bg By Ja if_false if_true Em Bo ofOpt Bu Er E8 De C7 true_and Bc
def A2(l:List UInt8):AV:=.v (.string ⟨⟨l⟩⟩)
def Bk(n:Nat):AV:=.v (.int .i64 (n:Int))
theorem qH{n:Nat}(h:n≤1000000000):IntKind.i64.wrap (n:Int)=(n:Int):=by
 rw[← bT];have:in64 (n:Int)=true:=Nat.ble_eq_true_of_le (by omega)
 unfold aN;rw[this]
theorem I2{i j:Nat}(h:i+j≤1000000000):IntKind.i64.wrap ((i:Int)+(j:Int))=((i+j:Nat):Int):=by
 rw[← qH h];push_cast;rfl
theorem Jd{i:Nat}(h:i+1≤1000000000):IntKind.i64.wrap ((i:Int)+1)=((i+1:Nat):Int):=I2 (j:=1) h
theorem Jt(S:St)(l:List UInt8):Eo Tryz.prog S 9 (.v (.string ⟨⟨l⟩⟩))=some l.length:=by
 have h:Tryz.prog.underlying 9=some .string:=rfl;simp only[Eo,h];rfl
theorem Xf(l:List UInt8)(i:Nat)(h:i<l.length):K6 Tryz.prog 9 (.v (.string ⟨⟨l⟩⟩)) (.v (.int .i64 (i:Int)))=some (G3 l[i]):=by
 have hu:Tryz.prog.underlying 9=some .string:=rfl;have h0:(0:Int)≤(i:Int):=by omega
 simp only[K6,hu,if_pos h0,Int.toNat_natCast,Ja4 h];rfl
def oS(P:Program)(G:Gl)(f:T AV)(S:St)(o:Oper):OR:=ground P G f S o
def xY(r:OR)(S:St)(x:Option AV):OR:=match x with
 |some (.v (.bool b))=>.val (.v (.bool (!b))) S
 |_=>r
theorem Ge(f:T AV)(S:St)(dst:Option Tmp)(k:Tmp)(ty:TypeId)(pos:String)(af:Array Edge)(gd:Option (Nat × Bool)):
  ground Tryz.prog gR f S { dst:=dst,op:=.unOp .not 4 (.tmp k),type:=ty,pos:=pos,after:=af,guard:=gd }=xY (oS Tryz.prog gR f S { dst:=dst,op:=.unOp .not 4 (.tmp k),type:=ty,pos:=pos,after:=af,guard:=gd }) S (f.get k):=by
 unfold xY
 split
 ·rename_i b h
  have hg:B8 gR f (.tmp k)=some (.bool b):=by unfold B8;simp only[A6,h];rfl
  unfold ground;simp only[Op.operands,List.all_cons,List.all_nil,hg,Option.isSome_some,Bool.and_self,Aa]
  have e:execOp (fun x=>(B8 gR f x).getD undef) { dst:=dst,op:=.unOp .not 4 (.tmp k),type:=ty,pos:=pos,after:=af,guard:=gd }=execOp (fun _=>.bool b) { dst:=dst,op:=.unOp .not 4 (.tmp k),type:=ty,pos:=pos,after:=af,guard:=gd }:=by
   simp only[execOp,hg,Ae]
  rw[e];cases b <;> rfl
 ·rfl
theorem Gw(r:OR)(S:St)(b:Bool):xY r S (some (.v (.bool b)))=.val (.v (.bool (!b))) S:=rfl
def cnt(p:UInt8→Bool):List UInt8→Nat
 | []=>0
 |b :: r=>if p b then cnt p r+1 else 0
theorem Qk(p:UInt8→Bool):∀l,cnt p l≤l.length
 | []=>Ja1 _
 |b :: r=>by
  unfold cnt
  split
  ·have:=Qk p r;simp;omega
  ·simp
def Se:Code:=match Tryz.f206.body with
 |some (.seq _ (.seq (.block _ (.loop c)) _))=>c
 |_=>.skip
structure Test(k:FuncId)(p:UInt8→Bool):Prop where
 run:∀b S,WC E1 k [G3 b] S (fun r=>r=.ret (.v (.bool (p b))) S)
 fn:(E1.F k).isSome=true
theorem aE{k:FuncId}{p:UInt8→Bool}(hp:Test k p)(l:List UInt8)(hl:l.length≤100000)(S:St):∀(m i:Nat) (t:T AV),i+m=l.length→t.get 0=some (A2 l)→t.get 1=some (Bk i)→t.get 2=some (.fn (.func k) [] []) →
  WX E1 21 (.loop Se) ⟨t,[]⟩ S (fun r=>∃t',r=.out (.exit 0) ⟨t',[]⟩ S∧t'.get 1=some (Bk (i+cnt p (l.drop i))))
 |0,i,t,hi,h0,h1,h2=>by
  refine Bt (Bp ?_);have hlt:¬ ((i:Int)<(l.length:Int)):=by omega
  have hd:l.drop i=[]:=Jc3 (by omega)
  simp only[A2,Bk]at h0 h1 ⊢;simp only[go_sem,J4,Ew,Ct,Ms,Jk,reduceLT,reduceEqDiff,Af,Ag,Ah,Ai,Aq,Ar,Av,Se,Tryz.f206,h0,h1,h2,Jt,hlt];exact⟨_,rfl,by simp only[A0,reduceEqDiff,Ab,h1,hd,cnt,Nat.add_zero]⟩
 |m+1,i,t,hi,h0,h1,h2=>by
  refine Bt (Bp ?_);have hil:i<l.length:=by omega
  have hlt:((i:Int)<(l.length:Int)):=by omega
  have hd:l.drop i=l[i] :: l.drop (i+1):=Ja6 hil;obtain⟨fn,hfn⟩:=Jc0.1 hp.fn;have hx:=Xf l i hil;have hw:=Jd (i:=i) (by omega)
  simp only[A2,Bk]at h0 h1 ⊢;simp only[go_sem,Bv,Ct,C9,Jk,reduceLT,reduceEqDiff,Af,Ag,Ah,Ai,Aj,Ak,Al,Ap,Se,Tryz.f206,h0,h1,h2,Jt,hlt,hx,hfn];refine WC.mono (hp.run l[i] S) ?_;rintro _ rfl;cases hb:p l[i]
  ·simp only[go_sem,Cd,Ew,reduceLT,reduceEqDiff,h1]
   refine⟨_,rfl,?_⟩;have e:cnt p (l.drop i)=0:=by rw[hd];unfold cnt;rw[hb];rfl
   simp only[A0,reduceEqDiff,Ab,h1,e,Nat.add_zero]
  ·simp only[go_sem,Cd,Fi,reduceLT,reduceEqDiff,h1,hw]
   have e:cnt p (l.drop i)=cnt p (l.drop (i+1))+1:=by rw[hd,cnt,hb];rfl
   refine WX.mono (aE hp l hl S m (i+1) _ (by omega) ?_ ?_ ?_) ?_
   ·simp only[A0,reduceEqDiff,Ab,h0];rfl
   ·simp only[A0,reduceEqDiff,Aa];rfl
   ·simp only[A0,reduceEqDiff,Ab,h2]
   ·rintro r ⟨t',rfl,h⟩
    refine⟨t',rfl,?_⟩;rw[h,e]
    show some (Bk _)=some (Bk _)
    congr 2;omega
theorem X5{k:FuncId}{p:UInt8→Bool}(hp:Test k p)(l:List UInt8)(hl:l.length≤100000)(i:Nat)(hi:i≤l.length)(S:St):WC E1 206 [A2 l,Bk i,.fn (.func k) [] []] S (fun r=>r=.ret (Bk (i+cnt p (l.drop i))) S):=by
 refine WCk Tryz.f206 ?_;have key:=fun t h0 h1 h2=>aE hp l hl S (l.length - i) i t (by omega) h0 h1 h2
 unfold Se at key;simp only[Tryz.f206]at key;simp only[go_sem,Iq,Cx,reduceLT,Nat.reduceAdd,Ae,Tryz.f206];refine WX.mono (key _ ?_ ?_ ?_) ?_
 ·simp only[A0,A1,reduceEqDiff,Aa,Ab]
 ·simp only[A0,A1,reduceEqDiff,Aa,Ab]
 ·simp only[A0,A1,reduceEqDiff,Aa,Ab]
 ·rintro r ⟨t',rfl,h⟩
  simp only[go_sem,Dl,Ea,Bm,Cm,Ba,D8,reduceLT,reduceEqDiff,Ad,h]
theorem blankT:Test 207 Cf:=⟨blank_w,by kernel_rfl⟩
theorem notEndT:Test 208 Hf:=⟨notEnd_w,by kernel_rfl⟩
theorem digitT:Test 211 Bi:=⟨pK,by kernel_rfl⟩
theorem wordBT:Test 238 Bq:=⟨wordB_w,by kernel_rfl⟩
end
end Go.Ax
