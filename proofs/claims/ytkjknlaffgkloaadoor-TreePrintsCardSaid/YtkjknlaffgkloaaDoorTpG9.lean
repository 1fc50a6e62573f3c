/- AxHa -/
import Derived.Test.YtkjknlaffgkloaaDoorTpG8
import Derived.Test.YtkjknlaffgkloaaDoorProg
import Derived.KernelRfl
import Derived.Laws.Unary
import Derived.ProofKit
import Derived.Laws.Slices
import Derived.IntWalk
import Derived.Lib.AppendZerosOnto
set_option linter.unusedVariables false
set_option linter.unusedSimpArgs false
set_option maxHeartbeats 16000000
noncomputable section
namespace Go.Ax
open Go.RowKit
abbrev ckN(E:Env)(m:Nat):CallK:=callN E (drawnNew E) m
def CT(E:Env)(k:FuncId)(args:List AV)(S:St)(r:R):Prop:=∃m0,∀m,m0≤m→ckN E m k args S=r
def RT(E:Env)(n:Nat)(c:Code)(f:Fr)(S:St)(r:O):Prop:=∃m0,∀m,m0≤m→run E (drawnNew E) m n c f S=r
def LT(E:Env)(n:Nat)(ops:Array Oper)(l:List Oper)(f:Fr)(S:St)(r:O):Prop:=∃m0,∀m,m0≤m→runL E (ckN E m) n ops l f S=r
def DT(E:Env)(n:Nat)(ops:Array Oper)(l:List RS)(f:Fr)(S:St)(r:O):Prop:=∃m0,∀m,m0≤m→runRS E (ckN E m) n ops l f S=r
def WC(E:Env)(k:FuncId)(args:List AV)(S:St)(Q:R→Prop):Prop:=∃r,CT E k args S r∧Q r
def WX(E:Env)(n:Nat)(c:Code)(f:Fr)(S:St)(Q:O→Prop):Prop:=∃r,RT E n c f S r∧Q r
def putW(n:Nat)(f:Fr)(dst:Option Tmp)(a:AV)(S:St)(K:Fr→St→Prop):Prop:=match dst with
 |none=>K f S
 |some d=>d<n∧K { f with tmps:=f.tmps.set d (some a) } S
def retW(n:Nat)(f:Fr)(dst:Option Tmp)(K:Fr→St→Prop)(Q:O→Prop):R→Prop
 |.ret a S=>putW n f dst a S K
 |.pan a S=>Q (.out (.pan a) f S)
 |.fail=>False
def execW(E:Env)(n:Nat)(o:Oper)(f:Fr)(K:Fr→St→Prop)(Q:O→Prop):OR→Prop
 |.val a S'=>putW n f o.dst a S' K
 |.skip S'=>putW n f o.dst (.tup []) S' K
 |.enter k args S'=>WC E k args S' (retW n f o.dst K Q)
 |.dfr fn caps args S'=>putW n { f with dfr:=⟨fn,caps,args⟩ :: f.dfr } o.dst (.tup []) S' K
 |.pan a S'=>Q (.out (.pan a) f S')
 |.fail=>False
def stepW(E:Env)(n:Nat)(ops:Array Oper)(o:Oper)(f:Fr)(S:St)(K:Fr→St→Prop)(Q:O→Prop):Prop:=match wantedA ops o f.tmps with
 |none=>False
 |some false=>putW n f o.dst (.tup []) S K
 |some true=>execW E n o f K Q (exec1 E f.tmps S o)
def WL(E:Env)(n:Nat)(ops:Array Oper):List Oper→Fr→St→(O→Prop)→Prop
 | [],f,S,Q=>Q (.out .normal f S)
 |o :: l,f,S,Q=>stepW E n ops o f S (fun f' S'=>WL E n ops l f' S' Q) Q
def WR(E:Env)(n:Nat)(ops:Array Oper):List RS→Fr→St→(O→Prop)→Prop
 | [],f,S,Q=>Q (.out .normal f S)
 |.op o :: l,f,S,Q=>stepW E n ops o f S (fun f' S'=>WR E n ops l f' S' Q) Q
 |.re o :: l,f,S,Q=>againO E ops o f.tmps S=true∧WR E n ops l f S Q
def WD(E:Env)(n:Nat)(ops:Array Oper)(f:Fr)(S:St)(Q:O→Prop):Prop:=∃r,(∃m0,∀m,m0≤m→drawnNew E (ckN E m) n ops f S=r)∧Q r
def thenW(K:Fr→St→Prop)(Q:O→Prop):O→Prop
 |.out .normal f S=>K f S
 |r=>Q r
def blockW(id:Nat)(Q:O→Prop):O→Prop
 |.out (.exit id') f S=>if id' = id then Q (.out .normal f S)else Q (.out (.exit id') f S)
 |r=>Q r
def condW(c:Option AV)(x y:Prop):Prop:=match c with
 |some (.v (.bool true))=>x
 |some (.v (.bool false))=>y
 |_=>False
def W(E:Env)(n:Nat)(c:Code)(f:Fr)(S:St)(Q:O→Prop):Prop:=match c with
 |.skip=>Q (.out .normal f S)
 |.label _=>Q (.out .normal f S)
 |.region _ ops false=>WL E n ops ops.toList f S Q
 |.region _ ops true=>WD E n ops f S Q
 |.seq a b=>W E n a f S (thenW (fun f' S'=>W E n b f' S' Q) Q)
 |.cond c x y=>condW (evalO E.G f.tmps c) (W E n x f S Q) (W E n y f S Q)
 |.block id c=>W E n c f S (blockW id Q)
 |.loop c=>WX E n (.loop c) f S Q
 |.exit id=>Q (.out (.exit id) f S)
 |.ret=>Q (.out .ret f S)
 |_=>False
theorem run_succ(E:Env)(m n:Nat)(c:Code)(f:Fr)(S:St):run E (drawnNew E) (m+1) n c f S=stepC E (drawnNew E) (run E (drawnNew E) m) (ckN E m) n c f S:=rfl
theorem put_sound{n:Nat}{f:Fr}{dst:Option Tmp}{a:AV}{S:St}{K:Fr→St→Prop}(h:putW n f dst a S K):∃f',putA n f dst a S=.out .normal f' S∧K f' S:=by
 unfold putW at h;unfold putA
 cases dst with
 |none=>exact⟨f,rfl,h⟩
 |some d=>exact⟨_,by simp only[if_pos h.1],h.2⟩
theorem step_sound{E:Env}{n:Nat}{ops:Array Oper}{o:Oper}{f:Fr}{S:St}{K:Fr→St→Prop}{Q:O→Prop}(h:stepW E n ops o f S K Q):
  ∃m0,(∃f' S',K f' S'∧∀m,m0≤m→stepO E (ckN E m) n ops o f S=.out .normal f' S')∨(∃a f' S',Q (.out (.pan a) f' S')∧∀m,m0≤m→stepO E (ckN E m) n ops o f S=.out (.pan a) f' S'):=by
 unfold stepW at h
 have hput:∀{dst a S'},putW n f dst a S' K→(∀m,stepO E (ckN E m) n ops o f S=putA n f dst a S')→∃m0,(∃f' S',K f' S'∧∀m,m0≤m→stepO E (ckN E m) n ops o f S=.out .normal f' S')∨(∃a f' S',Q (.out (.pan a) f' S')∧∀m,m0≤m→stepO E (ckN E m) n ops o f S=.out (.pan a) f' S'):=fun hp he=>by
  obtain⟨f',e,hk⟩:=put_sound hp
  exact⟨0,.inl ⟨f',_,hk,fun m _=>(he m).trans e⟩⟩
 cases hw:wantedA ops o f.tmps with
 |none=>rw[hw]at h;exact h.elim
 |some b =>
  rw[hw]at h
  cases b with
  |false=>exact hput h (fun m=>by unfold stepO;rw[hw])
  |true =>
   unfold execW at h
   simp only at h
   cases hx:exec1 E f.tmps S o with
   |val a S'=>rw[hx]at h;exact hput h (fun m=>by unfold stepO;rw[hw];simp only[hx])
   |skip S'=>rw[hx]at h;exact hput h (fun m=>by unfold stepO;rw[hw];simp only[hx])
   |enter k args S' =>
    rw[hx]at h
    obtain⟨r,⟨m0,hm⟩,hq⟩:=h
    unfold retW at hq
    cases r with
    |ret a S2 =>
     obtain⟨f',e,hk⟩:=put_sound hq
     exact⟨m0,.inl ⟨f',_,hk,fun m h=>by unfold stepO;rw[hw];simp only[hx,hm m h,e]⟩⟩
    |pan a S2=>exact⟨m0,.inr ⟨a,_,_,hq,fun m h=>by unfold stepO;rw[hw];simp only[hx,hm m h]⟩⟩
    |fail=>exact hq.elim
   |dfr fn caps args S' =>
    rw[hx]at h
    obtain⟨f',e,hk⟩:=put_sound h
    exact⟨0,.inl ⟨f',_,hk,fun m _=>by unfold stepO;rw[hw];simp only[hx,e]⟩⟩
   |pan a S'=>rw[hx]at h;exact⟨0,.inr ⟨a,_,_,h,fun m _=>by unfold stepO;rw[hw];simp only[hx]⟩⟩
   |fail=>rw[hx]at h;exact h.elim
theorem WL_sound{E:Env}{n:Nat}{ops:Array Oper}:∀{l:List Oper} {f:Fr} {S:St} {Q:O→Prop},WL E n ops l f S Q→∃r,LT E n ops l f S r∧Q r
 | [],f,S,Q,h=>⟨_,⟨0,fun _ _=>rfl⟩,h⟩
 |o :: l,f,S,Q,h=>by
  obtain⟨m0,⟨f',S',hk,hm⟩ | ⟨a,f',S',hq,hm⟩⟩:=step_sound h
  ·obtain⟨r,⟨m1,h1⟩,h2⟩:=WL_sound hk
   exact⟨r,⟨max m0 m1,fun m hmm=>by
    show(match stepO E (ckN E m) n ops o f S with |.out .normal f' S'=>runL E (ckN E m) n ops l f' S' |x=>x)=r
    rw[hm m (by omega)];exact h1 m (by omega)⟩,h2⟩
  ·exact⟨_,⟨m0,fun m hmm=>by
    show(match stepO E (ckN E m) n ops o f S with |.out .normal f' S'=>runL E (ckN E m) n ops l f' S' |x=>x)=_
    rw[hm m hmm]⟩,hq⟩
theorem WR_sound{E:Env}{n:Nat}{ops:Array Oper}:∀{l:List RS} {f:Fr} {S:St} {Q:O→Prop},WR E n ops l f S Q→∃r,DT E n ops l f S r∧r≠.fail∧Q r
 | [],f,S,Q,h=>⟨_,⟨0,fun _ _=>rfl⟩,(fun e=>by cases e),h⟩
 |.op o :: l,f,S,Q,h=>by
  obtain⟨m0,⟨f',S',hk,hm⟩ | ⟨a,f',S',hq,hm⟩⟩:=step_sound h
  ·obtain⟨r,⟨m1,h1⟩,h3,h2⟩:=WR_sound hk
   exact⟨r,⟨max m0 m1,fun m hmm=>by
    show(match stepO E (ckN E m) n ops o f S with |.out .normal f' S'=>runRS E (ckN E m) n ops l f' S' |x=>x)=r
    rw[hm m (by omega)];exact h1 m (by omega)⟩,h3,h2⟩
  ·exact⟨_,⟨m0,fun m hmm=>by
    show(match stepO E (ckN E m) n ops o f S with |.out .normal f' S'=>runRS E (ckN E m) n ops l f' S' |x=>x)=_
    rw[hm m hmm]⟩,(fun e=>by cases e),hq⟩
 |.re o :: l,f,S,Q,h=>by
  obtain⟨r,⟨m1,h1⟩,h3,h2⟩:=WR_sound h.2
  exact⟨r,⟨m1,fun m hmm=>by
   show(if againO E ops o f.tmps S=true then runRS E (ckN E m) n ops l f S else .fail)=r
   rw[if_pos h.1];exact h1 m hmm⟩,h3,h2⟩
theorem WD_steps{E:Env}{n:Nat}{ops:Array Oper}{f:Fr}{S:St}{Q:O→Prop}{rs:List RS}(h3:stepsD ops (bm ops.toList []) (eager ops (bm ops.toList []) ops.size (List.range ops.size) 0) []=some rs)
  (h2:static ops (bm ops.toList []) (eager ops (bm ops.toList []) ops.size (List.range ops.size) 0)=true) (h:WR E n ops rs f S (fun r=>Q (fixX ⟨eraseT ops.toList f.tmps,f.dfr⟩ r))):WD E n ops f S Q:=by
 obtain⟨r,⟨m0,hm⟩,hne,hq⟩:=WR_sound h
 have h1:flFind E.P ops=none:=by unfold flFind;simp only[h2,if_true]
 have h1m:mkFind E.P ops=none:=by unfold mkFind;simp only[h2,if_true]
 have h1n:mk2Find E.P ops=none:=by unfold mk2Find;simp only[h2,if_true]
 have h1t:isTwo ops=false:=by unfold isTwo;simp only[h2,if_true]
 refine⟨_,⟨m0,fun m hmm=>?_⟩,hq⟩
 unfold drawnNew
 rw[h1]
 simp only[h1m,h1n,h1t,Bool.false_eq_true,if_false]
 unfold drawnRun
 simp only
 rw[if_pos h2]
 rcases drun_steps (E:=E) (ck:=ckN E m) (n:=n) (fb:=⟨eraseT ops.toList f.tmps,f.dfr⟩) _ rs f S [] h3 (fun _ h=>absurd h List.not_mem_nil)with h |h
 ·rw[hm m hmm]at h;exact absurd h hne
 ·rw[h,hm m hmm]
theorem WD_fl{E:Env}{n:Nat}{ops:Array Oper}{f:Fr}{S:St}{Q:O→Prop}{x:FlP}{rs:List RS}(h1:flFind E.P ops=some x)(h2:allSteps ops x=some rs)(h3:x.d<n)
  (h:WR E n ops rs ⟨f.tmps.set x.d none,f.dfr⟩ S (fun r=>Q (fixX ⟨eraseT ops.toList f.tmps,f.dfr⟩ r))):WD E n ops f S Q:=by
 obtain⟨r,⟨m0,hm⟩,hne,hq⟩:=WR_sound h
 refine⟨_,⟨m0,fun m hmm=>?_⟩,hq⟩
 unfold drawnNew
 rw[h1]
 simp only
 unfold drawnFl
 rw[h2]
 simp only
 rw[if_pos h3,hm m hmm]
def rsOf(ops:Array Oper):List (Nat × Bool)→List RS
 | []=>[]
 | (i,b) :: r=>match ops[i]? with
  |some o=>(if b then RS.op o else RS.re o) :: rsOf ops r
  |none=>[]
theorem thenW_normal(K:Fr→St→Prop)(Q:O→Prop)(f:Fr)(S:St):thenW K Q (.out .normal f S)=K f S:=rfl
theorem thenW_exit(K:Fr→St→Prop)(Q:O→Prop)(id:Nat)(f:Fr)(S:St):thenW K Q (.out (.exit id) f S)=Q (.out (.exit id) f S):=rfl
theorem thenW_ret(K:Fr→St→Prop)(Q:O→Prop)(f:Fr)(S:St):thenW K Q (.out .ret f S)=Q (.out .ret f S):=rfl
theorem W_sound{E:Env}{n:Nat}:∀{c:Code} {f:Fr} {S:St} {Q:O→Prop},W E n c f S Q→WX E n c f S Q:=by
 have up:∀{c:Code} {f:Fr} {S:St} {r:O},(∃m0,∀m,m0≤m→stepC E (drawnNew E) (run E (drawnNew E) m) (ckN E m) n c f S=r)→RT E n c f S r:=fun⟨m0,h⟩=>⟨m0+1,fun m hm=>by
  obtain⟨k,rfl⟩:∃k,m=k+1:=⟨m - 1,by omega⟩
  rw[run_succ];exact h k (by omega)⟩
 intro c
 induction c with
 |skip=>intro f S Q h;unfold W at h;exact⟨_,up ⟨0,fun _ _=>rfl⟩,h⟩
 |label l=>intro f S Q h;unfold W at h;exact⟨_,up ⟨0,fun _ _=>rfl⟩,h⟩
 |region id ops draw =>
  intro f S Q h
  unfold W at h
  cases draw with
  |false =>
   obtain⟨r,⟨m0,hm⟩,hq⟩:=WL_sound h
   exact⟨r,up ⟨m0,fun m hmm=>hm m hmm⟩,hq⟩
  |true =>
   obtain⟨r,⟨m0,hm⟩,hq⟩:=h
   exact⟨r,up ⟨m0,fun m hmm=>hm m hmm⟩,hq⟩
 |seq a b iha ihb =>
  intro f S Q h
  unfold W at h
  obtain⟨r,⟨m0,hm⟩,hq⟩:=iha h
  have other:thenW (fun f' S'=>W E n b f' S' Q) Q r=Q r→(∀m,m0≤m→stepC E (drawnNew E) (run E (drawnNew E) m) (ckN E m) n (.seq a b) f S=r)→WX E n (.seq a b) f S Q:=fun e he=>⟨r,up ⟨m0,he⟩,by rw[← e];exact hq⟩
  cases r with
  |fail=>exact other rfl (fun m hmm=>by unfold stepC;simp only[hm m hmm])
  |out e f' S' =>
   cases e with
   |normal =>
    obtain⟨r,⟨m1,h1⟩,hq⟩:=ihb hq
    exact⟨r,up ⟨max m0 m1,fun m hmm=>by
     unfold stepC;simp only
     rw[hm m (by omega)];exact h1 m (by omega)⟩,hq⟩
   |exit id=>exact other rfl (fun m hmm=>by unfold stepC;simp only[hm m hmm])
   |ret=>exact other rfl (fun m hmm=>by unfold stepC;simp only[hm m hmm])
   |pan a=>exact other rfl (fun m hmm=>by unfold stepC;simp only[hm m hmm])
 |cond c x y ihx ihy =>
  intro f S Q h
  unfold W at h
  unfold condW at h
  split at h
  ·rename_i hc
   obtain⟨r,⟨m0,hm⟩,hq⟩:=ihx h
   exact⟨r,up ⟨m0,fun m hmm=>by unfold stepC;simp only[hc];exact hm m hmm⟩,hq⟩
  ·rename_i hc
   obtain⟨r,⟨m0,hm⟩,hq⟩:=ihy h
   exact⟨r,up ⟨m0,fun m hmm=>by unfold stepC;simp only[hc];exact hm m hmm⟩,hq⟩
  ·exact h.elim
 |block id c ih =>
  intro f S Q h
  unfold W at h
  obtain⟨r,⟨m0,hm⟩,hq⟩:=ih h
  have other:blockW id Q r=Q r→(∀m,m0≤m→stepC E (drawnNew E) (run E (drawnNew E) m) (ckN E m) n (.block id c) f S=r)→WX E n (.block id c) f S Q:=fun e he=>⟨r,up ⟨m0,he⟩,by rw[← e];exact hq⟩
  cases r with
  |fail=>exact other rfl (fun m hmm=>by unfold stepC;simp only[hm m hmm])
  |out e f' S' =>
   cases e with
   |exit id' =>
    unfold blockW at hq
    simp only at hq
    by_cases hi:id' = id
    ·rw[if_pos hi]at hq
     exact⟨_,up ⟨m0,fun m hmm=>by unfold stepC;simp only[hm m hmm,if_pos hi]⟩,hq⟩
    ·rw[if_neg hi]at hq
     exact⟨_,up ⟨m0,fun m hmm=>by unfold stepC;simp only[hm m hmm,if_neg hi]⟩,hq⟩
   |normal=>exact other rfl (fun m hmm=>by unfold stepC;simp only[hm m hmm])
   |ret=>exact other rfl (fun m hmm=>by unfold stepC;simp only[hm m hmm])
   |pan a=>exact other rfl (fun m hmm=>by unfold stepC;simp only[hm m hmm])
 |loop c ih=>intro f S Q h;unfold W at h;exact h
 |exit id=>intro f S Q h;unfold W at h;exact⟨_,up ⟨0,fun _ _=>rfl⟩,h⟩
 |ret=>intro f S Q h;unfold W at h;exact⟨_,up ⟨0,fun _ _=>rfl⟩,h⟩
 |_=>intro f S Q h;unfold W at h;exact h.elim
theorem WX.mono{E:Env}{n:Nat}{c:Code}{f:Fr}{S:St}{Q Q':O→Prop}(h:WX E n c f S Q)(hq:∀r,Q r→Q' r):WX E n c f S Q':=by
 obtain⟨r,h1,h2⟩:=h;exact⟨r,h1,hq r h2⟩
theorem WC.mono{E:Env}{k:FuncId}{args:List AV}{S:St}{Q Q':R→Prop}(h:WC E k args S Q)(hq:∀r,Q r→Q' r):WC E k args S Q':=by
 obtain⟨r,h1,h2⟩:=h;exact⟨r,h1,hq r h2⟩
theorem WX_loop{E:Env}{n:Nat}{c:Code}{f:Fr}{S:St}{Q:O→Prop}(h:WX E n c f S (thenW (fun f' S'=>WX E n (.loop c) f' S' Q) Q)):WX E n (.loop c) f S Q:=by
 obtain⟨r,⟨m0,hm⟩,hq⟩:=h
 have up:∀{r:O},(∃m0,∀m,m0≤m→stepC E (drawnNew E) (run E (drawnNew E) m) (ckN E m) n (.loop c) f S=r)→RT E n (.loop c) f S r:=fun⟨m0,h⟩=>⟨m0+1,fun m hm=>by
  obtain⟨k,rfl⟩:∃k,m=k+1:=⟨m - 1,by omega⟩
  rw[run_succ];exact h k (by omega)⟩
 have other:thenW (fun f' S'=>WX E n (.loop c) f' S' Q) Q r=Q r→(∀m,m0≤m→stepC E (drawnNew E) (run E (drawnNew E) m) (ckN E m) n (.loop c) f S=r)→WX E n (.loop c) f S Q:=fun e he=>⟨r,up ⟨m0,he⟩,by rw[← e];exact hq⟩
 cases r with
 |fail=>exact other rfl (fun m hmm=>by unfold stepC;simp only[hm m hmm])
 |out e f' S' =>
  cases e with
  |normal =>
   obtain⟨r,⟨m1,h1⟩,hq⟩:=hq
   exact⟨r,up ⟨max m0 m1,fun m hmm=>by
    unfold stepC;simp only
    rw[hm m (by omega)];exact h1 m (by omega)⟩,hq⟩
  |exit id=>exact other rfl (fun m hmm=>by unfold stepC;simp only[hm m hmm])
  |ret=>exact other rfl (fun m hmm=>by unfold stepC;simp only[hm m hmm])
  |pan a=>exact other rfl (fun m hmm=>by unfold stepC;simp only[hm m hmm])
def giveW(E:Env)(rs:List ResultVar)(f:Fr)(S:St)(Q:R→Prop):Prop:=match f.dfr,resultsA E f.tmps S rs with
 | [],some l=>Q (.ret (tupA l) S)
 |_,_=>False
def finW(E:Env)(rs:List ResultVar)(Q:R→Prop):O→Prop
 |.out .normal f S=>giveW E rs f S Q
 |.out .ret f S=>giveW E rs f S Q
 |.out (.pan a) f S=>f.dfr=[]∧Q (.pan a S)
 |_=>False
theorem WC_ext{E:Env}{k:FuncId}{args:List AV}{S:St}{Q:R→Prop}(fn:Func)(hI:E.I k=none)(hF:E.F k=some fn)(hb:fn.body.isSome=true)(hl:args.length≤fn.ntmps)
  (h:WX E fn.ntmps (fn.body.getD .skip) ⟨initT args 0,[]⟩ S (finW E fn.results.toList Q)):WC E k args S Q:=by
 obtain⟨r,⟨m0,hm⟩,hq⟩:=h
 obtain⟨c,hc⟩:=Option.isSome_iff_exists.1 hb
 have key:∀m,m0≤m→ckN E m k args S=endA E (run E (drawnNew E) m) fn r:=fun m hmm=>by
  show stepF E (run E (drawnNew E) m) k args S=_
  unfold stepF
  rw[hI,hF]
  simp only[hc,if_pos hl]
  have:=hm m hmm
  rw[hc]at this
  rw[show run E (drawnNew E) m fn.ntmps c ⟨initT args 0,[]⟩ S=r from this]
 have give:∀(f:Fr) (S':St),giveW E fn.results.toList f S' Q→∃l,f.dfr=[]∧resultsA E f.tmps S' fn.results.toList=some l∧Q (.ret (tupA l) S'):=fun f S' hg=>by
  unfold giveW at hg
  split at hg
  ·rename_i l h1 h2;exact⟨l,h1,h2,hg⟩
  ·exact hg.elim
 cases r with
 |fail=>exact hq.elim
 |out e f' S' =>
  cases e with
  |normal =>
   obtain⟨l,h1,h2,h3⟩:=give f' S' hq
   exact⟨_,⟨m0,fun m hmm=>by rw[key m hmm];simp only[endA,h1,giveA,h2]⟩,h3⟩
  |ret =>
   obtain⟨l,h1,h2,h3⟩:=give f' S' hq
   exact⟨_,⟨m0,fun m hmm=>by rw[key m hmm];simp only[endA,h1,giveA,h2]⟩,h3⟩
  |pan a=>exact⟨_,⟨m0,fun m hmm=>by rw[key m hmm];simp only[endA,hq.1]⟩,hq.2⟩
  |exit id=>exact hq.elim
theorem WC_fn{E:Env}{k:FuncId}{args:List AV}{S:St}{Q:R→Prop}(fn:Func)(hI:E.I k=none)(hF:E.F k=some fn)(hb:fn.body.isSome=true)(hl:args.length≤fn.ntmps)
  (h:W E fn.ntmps (fn.body.getD .skip) ⟨initT args 0,[]⟩ S (finW E fn.results.toList Q)):WC E k args S Q:=WC_ext fn hI hF hb hl (W_sound h)
theorem WC_known{E:Env}{k:FuncId}{args:List AV}{S:St}{Q:R→Prop}{g:List AV→St→R}(hI:E.I k=some g)(h:Q (g args S)):WC E k args S Q :=
 ⟨_,⟨0,fun m _=>by show stepF E (run E (drawnNew E) m) k args S=_;unfold stepF;rw[hI]⟩,h⟩
def seqQ(E:Env)(n:Nat)(b:Code)(Q:O→Prop):O→Prop:=thenW (fun f S=>W E n b f S Q) Q
def execL(E:Env)(n:Nat)(ops:Array Oper)(o:Oper)(l:List Oper)(f:Fr)(S:St)(Q:O→Prop):Option Bool→OR→Prop
 |none,_=>False
 |some false,_=>putW n f o.dst (.tup []) S (fun f' S'=>WL E n ops l f' S' Q)
 |some true,x=>execW E n o f (fun f' S'=>WL E n ops l f' S' Q) Q x
def execR(E:Env)(n:Nat)(ops:Array Oper)(o:Oper)(l:List RS)(f:Fr)(S:St)(Q:O→Prop):Option Bool→OR→Prop
 |none,_=>False
 |some false,_=>putW n f o.dst (.tup []) S (fun f' S'=>WR E n ops l f' S' Q)
 |some true,x=>execW E n o f (fun f' S'=>WR E n ops l f' S' Q) Q x
def putL(E:Env)(n:Nat)(ops:Array Oper)(l:List Oper)(dst:Option Tmp)(f:Fr)(a:AV)(S:St)(Q:O→Prop):Prop:=putW n f dst a S (fun f' S'=>WL E n ops l f' S' Q)
def putRW(E:Env)(n:Nat)(ops:Array Oper)(l:List RS)(dst:Option Tmp)(f:Fr)(a:AV)(S:St)(Q:O→Prop):Prop:=putW n f dst a S (fun f' S'=>WR E n ops l f' S' Q)
def retL(E:Env)(n:Nat)(ops:Array Oper)(l:List Oper)(dst:Option Tmp)(f:Fr)(Q:O→Prop):R→Prop:=retW n f dst (fun f' S'=>WL E n ops l f' S' Q) Q
def retRW(E:Env)(n:Nat)(ops:Array Oper)(l:List RS)(dst:Option Tmp)(f:Fr)(Q:O→Prop):R→Prop:=retW n f dst (fun f' S'=>WR E n ops l f' S' Q) Q
def fixQ(ops:Array Oper)(f:Fr)(Q:O→Prop):O→Prop:=fun r=>Q (fixX ⟨eraseT ops.toList f.tmps,f.dfr⟩ r)
section
variable {E:Env} {n:Nat} {f:Fr} {S:St} {Q:O → Prop} {ops:Array Oper} {t:T AV} {ds:List Dfr}
theorem W_skip:W E n .skip f S Q=Q (.out .normal f S):=by unfold W;rfl
theorem W_region{id:Nat}:W E n (.region id ops false) f S Q=WL E n ops ops.toList f S Q:=by unfold W;rfl
theorem W_drawn{id:Nat}:W E n (.region id ops true) f S Q=WD E n ops f S Q:=by unfold W;rfl
theorem W_seq{a b:Code}:W E n (.seq a b) f S Q=W E n a f S (seqQ E n b Q):=by show W E n (.seq a b) f S Q=W E n a f S (thenW (fun f S=>W E n b f S Q) Q);conv=>lhs;unfold W
theorem W_cond{c:Operand}{x y:Code}:W E n (.cond c x y) f S Q=condW (evalO E.G f.tmps c) (W E n x f S Q) (W E n y f S Q):=by conv=>lhs;unfold W
theorem W_block{id:Nat}{c:Code}:W E n (.block id c) f S Q=W E n c f S (blockW id Q):=by conv=>lhs;unfold W
theorem W_loop{c:Code}:W E n (.loop c) f S Q=WX E n (.loop c) f S Q:=by unfold W;rfl
theorem W_exit{id:Nat}:W E n (.exit id) f S Q=Q (.out (.exit id) f S):=by unfold W;rfl
theorem W_ret:W E n .ret f S Q=Q (.out .ret f S):=by unfold W;rfl
theorem WL_cons{o:Oper}{l:List Oper}:WL E n ops (o :: l) f S Q=execL E n ops o l f S Q (wantedA ops o f.tmps) (exec1 E f.tmps S o):=by
 show stepW E n ops o f S (fun f' S'=>WL E n ops l f' S' Q) Q=_
 unfold stepW
 cases wantedA ops o f.tmps with
 |none=>rfl
 |some b=>cases b <;> rfl
theorem execL_no{o:Oper}{l:List Oper}{x:OR}:execL E n ops o l f S Q (some false) x=putL E n ops l o.dst f (.tup []) S Q:=by cases x <;> rfl
theorem WR_op{o:Oper}{l:List RS}:WR E n ops (.op o :: l) f S Q=execR E n ops o l f S Q (wantedA ops o f.tmps) (exec1 E f.tmps S o):=by
 show stepW E n ops o f S (fun f' S'=>WR E n ops l f' S' Q) Q=_
 unfold stepW
 cases wantedA ops o f.tmps with
 |none=>rfl
 |some b=>cases b <;> rfl
theorem execR_no{o:Oper}{l:List RS}{x:OR}:execR E n ops o l f S Q (some false) x=putRW E n ops l o.dst f (.tup []) S Q:=by cases x <;> rfl
theorem WD_by(l:List (Nat × Bool))(h2:static ops (bm ops.toList []) (eager ops (bm ops.toList []) ops.size (List.range ops.size) 0)=true)
  (h3:stepsD ops (bm ops.toList []) (eager ops (bm ops.toList []) ops.size (List.range ops.size) 0) []=some (rsOf ops l)) (h:WR E n ops (rsOf ops l) f S (fixQ ops f Q)):WD E n ops f S Q:=WD_steps h3 h2 h
theorem WD_byFl(l:List (Nat × Bool)){x:FlP}(h1:flFind E.P ops=some x)(h2:allSteps ops x=some (rsOf ops l))(h3:x.d<n)(h:WR E n ops (rsOf ops l) ⟨f.tmps.set x.d none,f.dfr⟩ S (fixQ ops f Q)):WD E n ops f S Q:=WD_fl h1 h2 h3 h
theorem finW_ret{rs:List ResultVar}{Q:R→Prop}:finW E rs Q (.out .ret f S)=giveW E rs f S Q:=rfl
end
end Go.Ax
noncomputable section
namespace Go.Ax
open Go.RowKit
def Gh.below(γ:Gh)(n:Nat):Gh:={ γ with loc:=fun i=>if i<n then γ.loc i else none }
def AV.old(n:Nat):AV→Prop
 |.v _=>True
 |_=>False
end Go.Ax
noncomputable section
namespace Go.Ax
open Go.RowKit
mutual
def clean:AV→AV
 |.sl _ _ sz es=>.sl 0 0 sz (cleanL es)
 |.agg cs=>.agg (cleanL cs)
 |.tup vs=>.tup (cleanL vs)
 |.v x=>.v x
 |.nilp=>.nilp
 |.nils=>.nils
 |.nilm=>.nilm
 |.ptr a b=>.ptr a b
 |.ep cs=>.ep cs
 |.map id=>.map id
 |.fn f a b=>.fn f a b
 |.iface t x=>.iface t x
 |.bs a b c d=>.bs a b c d
def cleanL:List AV→List AV
 | []=>[]
 |a :: r=>clean a :: cleanL r
end
mutual
def freeV:AV→Bool
 |.sl _ _ _ es=>freeL es
 |.agg cs=>freeL cs
 |.tup vs=>freeL vs
 |.v _=>true
 |.nilp=>true
 |.nils=>true
 |.nilm=>true
 |.ptr _ _=>false
 |.ep _=>false
 |.map _=>false
 |.fn _ _ _=>false
 |.iface _ _=>false
 |.bs _ _ _ _=>false
def freeL:List AV→Bool
 | []=>true
 |a :: r=>freeV a && freeL r
end
theorem cleanL_map:∀es,cleanL es=es.map clean
 | []=>rfl
 |a :: r=>by rw[cleanL,cleanL_map r];rfl
theorem freeL_all:∀{es},freeL es=true→∀a∈es,freeV a=true
 | [],_,a,h=>by cases h
 |b :: r,h,a,ha=>by
  rw[freeL,Bool.and_eq_true]at h
  rcases List.mem_cons.1 ha with rfl |ha
  ·exact h.1
  ·exact freeL_all h.2 a ha
theorem clean_one(a:AV):(clean a).one=a.one:=by cases a <;> rfl
theorem clean_cells(a:AV):(clean a).cells=a.cells.map clean:=by
 cases a <;> first |rfl |skip
 ·show cleanL _=_;rw[cleanL_map];rfl
theorem flat_clean:∀es:List AV,flat (es.map clean)=(flat es).map clean
 | []=>rfl
 |a :: r=>by
  unfold flat
  rw[List.map_cons,List.flatMap_cons,List.flatMap_cons,List.map_append,clean_cells]
  have:=flat_clean r
  unfold flat at this
  rw[this]
theorem freeV_cells{a:AV}(h:freeV a=true):∀c∈a.cells,freeV c=true:=by
 cases a with
 |agg cs=>exact freeL_all h
 |_=>intro c hc;simp only[AV.cells,List.mem_cons,List.not_mem_nil,or_false]at hc;subst hc;exact h
theorem free_flat{es:List AV}(h:freeL es=true):∀c∈flat es,freeV c=true:=by
 intro c hc
 unfold flat at hc
 rw[List.mem_flatMap]at hc
 obtain⟨e,he,hce⟩:=hc
 exact freeV_cells (freeL_all h e he) c hce
theorem VR.clean{γ γ':Gh}{w:World}(him:∀b o,γ.im b o→γ'.im b o){a:AV}{x:Value}(h:VR γ w a x):freeV a=true→VR γ' w (Go.Ax.clean a) x:=by
 induction h with
 |v x h=>intro _;exact .v x h
 |nilp=>intro _;exact .nilp
 |ptr id off b s h=>intro hf;cases hf
 |ep cs b o c h h1 hr ih=>intro hf;cases hf
 |nils=>intro _;exact .nils
 |sl tok off sz es b o cap c hsz hes h1 h hr ht hf2 hc hb ih =>
  intro hf
  have hf:freeL es=true:=hf
  show VR γ' w (.sl 0 0 sz (cleanL es)) _
  rw[cleanL_map]
  have hlen:(flat (es.map Go.Ax.clean)).length=(flat es).length:=by rw[flat_clean,List.length_map]
  have key:=VR.sl (γ:=γ') (w:=w) 0 0 sz (es.map Go.Ax.clean) b o cap c hsz (fun e he=>by
    obtain⟨e',he',rfl⟩:=List.mem_map.1 he
    rw[clean_cells,List.length_map];exact hes e' he') (fun y hy=>by
    rw[flat_clean]at hy
    obtain⟨y',hy',rfl⟩:=List.mem_map.1 hy
    rw[clean_one];exact h1 y' hy') (fun k hk=>⟨him _ _ (h k (by rw[← hlen];exact hk)).1,(h k (by rw[← hlen];exact hk)).2⟩) (fun k hk=>by
    have hk':k<(flat es).length:=by rw[← hlen];exact hk
    have:=ih k hk' (free_flat hf _ (List.getElem_mem hk'))
    have e:(flat (es.map Go.Ax.clean))[k]=Go.Ax.clean (flat es)[k]:=by
     simp only[flat_clean,List.getElem_map]
    rw[e];exact this) (fun h=>by omega) (fun h=>by omega) (by rw[List.length_map];exact hc) hb
  rw[List.length_map]at key
  exact key
 |nilm=>intro _;exact .nilm
 |map id b s h=>intro hf;cases hf
 |fn f first caps x y hx hy h1 h2 ih1 ih2=>intro hf;cases hf
 |iface t a x h ih=>intro hf;cases hf
 |agg cs x hx h1 h ih =>
  intro hf
  have hf:freeL cs=true:=hf
  show VR γ' w (.agg (cleanL cs)) _
  rw[cleanL_map]
  refine .agg _ x (by rw[hx,List.length_map]) (fun a ha=>?_) (fun k hk hk'=>?_)
  ·obtain⟨a',ha',rfl⟩:=List.mem_map.1 ha
   rw[clean_one];exact h1 a' ha'
  ·rw[List.getElem_map]
   have hk2:k<cs.length:=by rw[List.length_map]at hk;exact hk
   exact ih k hk2 hk' (freeL_all hf _ (List.getElem_mem hk2))
 |tup vs x hx h ih =>
  intro hf
  have hf:freeL vs=true:=hf
  show VR γ' w (.tup (cleanL vs)) _
  rw[cleanL_map]
  refine .tup _ x (by rw[hx,List.length_map]) (fun k hk hk'=>?_)
  rw[List.getElem_map]
  have hk2:k<vs.length:=by rw[List.length_map]at hk;exact hk
  exact ih k hk2 hk' (freeL_all hf _ (List.getElem_mem hk2))
 |bs id off n2 sz b s cap h hc hsz hb=>intro hf;cases hf
def Gh.more(γ γ1:Gh):Gh:={ γ with im:=fun b o=>γ.im b o∨γ1.im b o }
theorem SR.more{base:Nat}{w0 w w':World}{γ γ1:Gh}{S:St}(h:SR base w0 γ S w)(hb:Below w.heap.size w w')(hi:∀b o,γ1.im b o→w.heap.size≤b∧∃v,w'.cell? ⟨b,o,none⟩=some v):SR base w0 (γ.more γ1) S w'∧Ext γ S w (γ.more γ1) S w':=by
 have hc:∀b o v,w.cell? ⟨b,o,none⟩=some v→w'.cell? ⟨b,o,none⟩=some v:=fun b o v hv=>(hb.cell (World.block_lt_of_cell? w _ hv)).trans hv
 have ev:Ev γ w (γ.more γ1) w':=⟨fun _ _ h=>h,fun _ _ h=>.inl h,fun b o v _ hv=>hc b o v hv,fun b arr T fr ha=>⟨arr,fr,(hb.block b (Array.getElem?_eq_some_iff.1 ha).1).trans ha,rfl⟩⟩
 have him:∀b,b<w.heap.size→∀o,(γ.more γ1).im b o→γ.im b o:=fun b hlt o ho=>ho.elim id (fun h=>by have:=(hi b o h).1;omega)
 refine⟨⟨h.below.trans (hb.mono h.hbase),Nat.le_trans h.hbase hb.size,fun b o ho=>?_,h.fresh,h.pos,fun id b s e=>Nat.lt_of_lt_of_le (h.inb id b s e) hb.size,fun id c e=>?_,h.inj⟩,
  ⟨ev,Nat.le_refl _,fun _ _=>rfl,hb.size,fun id c b s h l=>.inr ⟨id,c,s,h,l⟩,fun b hl _=>⟨hb.block b hl,him b hl⟩⟩⟩
 ·rcases ho with ho |ho
  ·obtain⟨v,hv⟩:=h.imc b o ho;exact⟨v,hc b o v hv⟩
  ·exact(hi b o ho).2
 ·obtain⟨b,s,h1,h2,h3⟩:=h.live id c e
  exact⟨b,s,h1,h2,h3.keep ev (hb.block b (h.inb id b s h1)) (fun o=>him b (h.inb id b s h1) o)⟩
end Go.Ax
noncomputable section
namespace Go.Ax
open Go.RowKit
open Classical
mutual
theorem clean_free:∀a:AV,freeV a=true→freeV (clean a)=true∧clean (clean a)=clean a
 |.sl _ _ sz es,h=>⟨(cleanL_free es h).1,by show AV.sl 0 0 sz (cleanL (cleanL es))=_;rw[(cleanL_free es h).2];rfl⟩
 |.agg cs,h=>⟨(cleanL_free cs h).1,by show AV.agg (cleanL (cleanL cs))=_;rw[(cleanL_free cs h).2];rfl⟩
 |.tup vs,h=>⟨(cleanL_free vs h).1,by show AV.tup (cleanL (cleanL vs))=_;rw[(cleanL_free vs h).2];rfl⟩
 |.v x,h=>⟨rfl,rfl⟩
 |.nilp,h=>⟨rfl,rfl⟩
 |.nils,h=>⟨rfl,rfl⟩
 |.nilm,h=>⟨rfl,rfl⟩
 |.ptr a b,h=>by cases h
 |.ep cs,h=>by cases h
 |.map id,h=>by cases h
 |.fn f a b,h=>by cases h
 |.iface t x,h=>by cases h
 |.bs a b c d,h=>by cases h
theorem cleanL_free:∀l:List AV,freeL l=true→freeL (cleanL l)=true∧cleanL (cleanL l)=cleanL l
 | [],h=>⟨rfl,rfl⟩
 |a :: r,h=>by
  rw[freeL,Bool.and_eq_true]at h
  have h1:=clean_free a h.1
  have h2:=cleanL_free r h.2
  refine⟨?_,?_⟩
  ·rw[cleanL,freeL,h1.1,h2.1];rfl
  ·rw[cleanL,cleanL,h1.2,h2.2]
end
def PureQ(w:World)(im:Nat→Nat→Prop)(a:AV)(e:Ending)(w':World):Prop :=
 ∃v,∃γ':Gh,e=.returned v∧Below w.heap.size w w'∧(∀b o,γ'.im b o→∃v,w'.cell? ⟨b,o,none⟩=some v)∧(∀b,b<w.heap.size→∀o,γ'.im b o→im b o)∧∀γ2:Gh,(∀b o,γ'.im b o→γ2.im b o)→VR γ2 w' a v
def PureV(P:Program)(k:FuncId)(args:List AV)(a:AV):Prop :=
 ∀(w:World) (im:Nat→Nat→Prop),(∀b o,im b o→∃v,w.cell? ⟨b,o,none⟩=some v)→∀vs:List Value,VRL ⟨fun _=>none,im⟩ w args vs→Calls P k vs.toArray w (PureQ w im a)
structure Kn(P:Program)(Spec:FuncId→List AV→AV→Prop)(k:FuncId)(args:List AV)(a:AV):Prop where
 free:freeV a=true
 cln:clean a=a
 pure:PureV P k args a
 spec:Spec k args a
theorem vrl_clean{γ γ':Gh}{w:World}(him:∀b o,γ.im b o→γ'.im b o){args:List AV}{vs:List Value}(h:VRL γ w args vs)(hf:freeL args=true):VRL γ' w (cleanL args) vs:=by
 rw[cleanL_map]
 refine⟨by rw[List.length_map];exact h.1,fun k h1 h2=>?_⟩
 rw[List.length_map]at h1
 rw[List.getElem_map]
 exact(h.2 k h1 h2).clean him (freeL_all hf _ (List.getElem_mem h1))
def noI2(E:Env)(f:FuncId):Env:={ E with I:=fun k=>if k=f then none else E.I k }
theorem noI2_intr{E:Env}(hI:IntrOk E)(f:FuncId):IntrOk (noI2 E f):=fun k g hk=>by
 have hk:(if k=f then none else E.I k)=some g:=hk
 split at hk
 ·cases hk
 ·exact hI k g hk
theorem results_noI(E:Env)(k:FuncId)(f:T AV)(S:St):∀rs,resultsA (noI2 E k) f S rs=resultsA E f S rs
 | []=>rfl
 |.tmp t :: rs=>by
  have ih:=results_noI E k f S rs
  show(match f.get t,resultsA (noI2 E k) f S rs with |some a,some l=>some (a :: l) |_,_=>none)=_
  rw[ih]
  rfl
 |.cell x t :: rs=>by
  have ih:=results_noI E k f S rs
  show(match f.get x with |some a=>(match oLoad E.P S t a,resultsA (noI2 E k) f S rs with |some a,some l=>some (a :: l) |_,_=>none) |none=>none)=_
  rw[ih]
  rfl
end Go.Ax
noncomputable section
namespace Go.Ax
open Go.RowKit
def cl1(c:Option Cell)(k:Nat):Option AV:=match c with
 |some (.box cs)=>cs[k]?
 |_=>none
def clN(c:Option Cell)(k n:Nat):Option AV:=match c with
 |some (.box cs)=>if k+n≤cs.length then some (.agg ((cs.drop k).take n))else none
 |_=>none
theorem cl1_box(cs:List AV)(k:Nat):cl1 (some (.box cs)) k=cs[k]?:=_root_.id rfl
theorem clN_box(cs:List AV)(k n:Nat):clN (some (.box cs)) k n=if k+n≤cs.length then some (.agg ((cs.drop k).take n))else none:=_root_.id rfl
theorem vldS{P:Program}{t:TypeId}(ha:isAggT P t=some false)(S:St)(p k:Nat):oLoad P S t (.ptr p k)=cl1 (S.mem.get p) k:=by
 unfold oLoad behind cl1
 simp only[ha]
 cases h:S.mem.get p with
 |none=>simp only[h]
 |some c =>
  cases c with
  |box cs =>
   simp only[h]
   by_cases hk:k≤cs.length
   ·rw[if_pos hk]
    simp only
    cases hd:cs.drop k with
    |nil =>
     have hl:=congrArg List.length hd
     simp at hl
     rw[List.getElem?_eq_none (by omega)];rfl
    |cons a r =>
     have h0:(cs.drop k)[0]? = some a:=by rw[hd];rfl
     rw[List.getElem?_drop,Nat.add_zero]at h0
     rw[h0];rfl
   ·rw[if_neg hk,List.getElem?_eq_none (by omega)]
  |tip m=>simp only[h]
  |mp es=>simp only[h]
theorem vldG{P:Program}{t:TypeId}{n:Nat}(ha:isAggT P t=some true)(hs:sizeT P t=some (n+1))(S:St)(p k:Nat):oLoad P S t (.ptr p k)=clN (S.mem.get p) k (n+1):=by
 unfold oLoad behind clN
 simp only[ha,hs]
 cases h:S.mem.get p with
 |none=>simp only[h]
 |some c =>
  cases c with
  |box cs =>
   simp only[h]
   by_cases hk:k≤cs.length
   ·rw[if_pos hk]
    simp only[List.length_drop]
    by_cases hn:n+1≤cs.length - k
    ·rw[if_pos hn,if_pos (by omega)]
    ·rw[if_neg hn,if_neg (by omega)]
   ·rw[if_neg hk,if_neg (by omega)]
  |tip m=>simp only[h]
  |mp es=>simp only[h]
theorem vldSE{P:Program}{t:TypeId}(ha:isAggT P t=some false)(S:St)(c:AV)(cs:List AV):oLoad P S t (.ep (c :: cs))=some c:=by
 unfold oLoad behind
 simp only[ha]
 rfl
theorem vldGE{P:Program}{t:TypeId}{n:Nat}(ha:isAggT P t=some true)(hs:sizeT P t=some n)(S:St)(cs:List AV):oLoad P S t (.ep cs)=if n≤cs.length then some (.agg (cs.take n))else none:=by
 unfold oLoad behind
 simp only[ha,hs]
def vstB(S:St)(c:Option Cell)(b k:Nat)(v:AV)(n:Nat):Option St:=match c with
 |some (.box cs)=>if v.noTup && n == v.cells.length && decide (k+v.cells.length≤cs.length)then some { S with mem:=S.mem.set b (some (.box (cs.take k ++ v.cells ++ cs.drop (k+v.cells.length)))) } else none
 |_=>none
theorem vstG{P:Program}{t:TypeId}{n:Nat}(hs:sizeT P t=some n)(S:St)(b k:Nat)(v:AV):oStore P S t (.ptr b k) v=vstB S (S.mem.get b) b k v n:=by
 unfold oStore vstB
 simp only[hs]
 cases S.mem.get b with
 |none=>rfl
 |some c=>cases c <;> rfl
def St.to(S:St)(b:Nat)(cs:List AV):St:={ S with mem:=S.mem.set b (some (.box cs)) }
theorem vstB_agg(S:St)(cs:List AV)(b k:Nat)(xs:List AV)(n:Nat):vstB S (some (.box cs)) b k (.agg xs) n=if n=xs.length∧k+xs.length≤cs.length then some (S.to b (cs.take k ++ xs ++ cs.drop (k+xs.length)))else none:=by
 show(if(true && n == xs.length && decide (k+xs.length≤cs.length))=true then some (S.to b (cs.take k ++ xs ++ cs.drop (k+xs.length)))else none)=_
 simp only[Bool.true_and,Bool.and_eq_true,beq_iff_eq,decide_eq_true_eq]
def AV.single:AV→Bool
 |.tup _=>false
 |.agg _=>false
 |_=>true
theorem single_cells{a:AV}(h:a.single=true):a.noTup=true∧a.cells=[a]:=by
 cases a <;> first |exact⟨rfl,rfl⟩ |cases h
theorem vstB_one{a:AV}(h:a.single=true)(S:St)(cs:List AV)(b k:Nat):vstB S (some (.box cs)) b k a 1=if k+1≤cs.length then some (S.to b (cs.take k ++ a :: cs.drop (k+1)))else none:=by
 unfold vstB
 simp only[(single_cells h).1,(single_cells h).2,List.length_cons,List.length_nil,Bool.true_and,Nat.zero_add,beq_self_eq_true,decide_eq_true_eq,List.append_assoc,List.cons_append,List.nil_append]
 rfl
theorem vstB_v(x:Value)(S:St)(cs:List AV)(b k:Nat):vstB S (some (.box cs)) b k (.v x) 1=if k+1≤cs.length then some (S.to b (cs.take k ++ .v x :: cs.drop (k+1)))else none:=vstB_one rfl S cs b k
theorem vstB_n(S:St)(cs:List AV)(b k:Nat):vstB S (some (.box cs)) b k .nils 1=if k+1≤cs.length then some (S.to b (cs.take k ++ .nils :: cs.drop (k+1)))else none:=vstB_one rfl S cs b k
theorem vstB_s(tok off sz:Nat)(es:List AV)(S:St)(cs:List AV)(b k:Nat):vstB S (some (.box cs)) b k (.sl tok off sz es) 1=if k+1≤cs.length then some (S.to b (cs.take k ++ .sl tok off sz es :: cs.drop (k+1)))else none:=vstB_one rfl S cs b k
theorem to_get(S:St)(b id:Nat)(cs:List AV):(S.to b cs).mem.get id=if id=b then some (.box cs)else S.mem.get id:=by
 show(S.mem.set b _).get id=_
 rw[T.get_set]
theorem to_next(S:St)(b:Nat)(cs:List AV):(S.to b cs).next=S.next:=_root_.id rfl
theorem nb_get(S:St)(id:Nat)(cs:List AV):(S.newBox cs).mem.get id=if id=S.next then some (.box cs)else S.mem.get id:=by
 show(S.mem.set S.next _).get id=_
 rw[T.get_set]
theorem nb_next(S:St)(cs:List AV):(S.newBox cs).next=S.next+1:=_root_.id rfl
theorem st0_get(id:Nat):St0.mem.get id=none:=T.get_leaf id
theorem st0_next:St0.next=2:=_root_.id rfl
theorem cells_agg(xs:List AV):(AV.agg xs).cells=xs:=_root_.id rfl
theorem cells_sl(a b c:Nat)(es:List AV):(AV.sl a b c es).cells=[.sl a b c es]:=_root_.id rfl
theorem noTup_agg(xs:List AV):(AV.agg xs).noTup=true:=_root_.id rfl
def RowO(sz:Nat)(S:St)(tok:Nat)(es:List AV):Prop:=tok=1∨(2≤tok∧tok<S.next∧S.mem.get tok=some (.tip (es.length*sz)))
theorem RowO.one(sz:Nat)(S:St)(es:List AV):RowO sz S 1 es:=.inl rfl
theorem RowO.keep{sz:Nat}{S S':St}{tok:Nat}{es:List AV}(h:RowO sz S tok es)(hn:S.next≤S'.next)(hk:2≤tok→tok<S.next→S'.mem.get tok=S.mem.get tok):RowO sz S' tok es:=by
 rcases h with h | ⟨h1,h2,h3⟩
 ·exact .inl h
 ·exact .inr ⟨h1,Nat.lt_of_lt_of_le h2 hn,(hk h1 h2).trans h3⟩
structure RowT(P:Program)(t e sz bytes:Nat):Prop where
 el:elemT P t=some (none,e)
 un:P.underlying t=some (.slice e)
 info:∃i z,P.info? e=some i∧i.zero=some z∧z.cells.size=i.size∧i.size=sz∧i.bytes=bytes
 pos:0<sz
 few:bytes≤1000
theorem push_row{P:Program}{t e sz bytes:Nat}(TT:RowT P t e sz bytes){E:Env}(hP:E.P=P)(hM:E.M t=0){S:St}{tok:Nat}{es:List AV}(h:RowO sz S tok es)(hn:2≤S.next)(x:AV)(hx:x.cells.length=sz)(hl:es.length≤2000000):
  ∃S',appendE E S t t (.sl tok 0 sz es) (.sl 1 0 sz [x])=some (.sl S.next 0 sz (es ++ [x]),S')∧RowO sz S' S.next (es ++ [x])∧S'.next=S.next+1∧∀id,id≠tok→id<S.next→S'.mem.get id=S.mem.get id:=by
 obtain⟨i,z,hi,hz0,hz1,hz2,hz3⟩:=TT.info
 have hfew:=TT.few
 have hpos:=TT.pos
 have hb0:(es.length+1)*bytes≤2000001*1000:=Nat.mul_le_mul (by omega) hfew
 have hb1:(es.length+1)*bytes≤140737488355328:=by omega
 have hb2:es.length+1≤9223372036854775807:=by omega
 have app:appendE E S t t (.sl tok 0 sz es) (.sl 1 0 sz [x])=oAppend P S t t (.sl tok 0 sz es) (.sl 1 0 sz [x]):=by
  unfold appendE;rw[hM,hP]
 rw[app]
 have hsz:i.size=sz:=hz2
 subst hsz
 subst hz3
 rcases h with rfl | ⟨h1,h2,h3⟩
 ·refine⟨S.grown 1 ((es ++ [x]).length*i.size),?_,.inr ⟨hn,Nat.lt_succ_self _,?_⟩,rfl,fun id hne hid=>?_⟩
  ·simp[oAppend,TT.el,TT.un,hi,hz0,hz1,srcA,tipOk,hb1,hb2,hpos]
  ·show(S.mem.set S.next _).get S.next=_
   rw[T.get_set,if_pos rfl]
  ·show(S.mem.set S.next _).get id=_
   rw[T.get_set,if_neg (by omega)]
 ·obtain⟨k,rfl⟩:∃k,tok=k+2:=⟨tok - 2,by omega⟩
  refine⟨S.grown (k+2) ((es ++ [x]).length*i.size),?_,.inr ⟨hn,Nat.lt_succ_self _,?_⟩,rfl,fun id hne hid=>?_⟩
  ·simp[oAppend,TT.el,TT.un,hi,hz0,hz1,srcA,tipOk,h3,hb1,hb2,hpos]
  ·show((S.mem.set (k+2) none).set S.next _).get S.next=_
   rw[T.get_set,if_pos rfl]
  ·show((S.mem.set (k+2) none).set S.next _).get id=_
   rw[T.get_set,if_neg (by omega),T.get_set,if_neg (by omega)]
theorem push_nil{P:Program}{t e sz bytes:Nat}(TT:RowT P t e sz bytes){E:Env}(hP:E.P=P)(hM:E.M t=0){S:St}(hn:2≤S.next)(x:AV)(hx:x.cells.length=sz):
  ∃S',appendE E S t t .nils (.sl 1 0 sz [x])=some (.sl S.next 0 sz [x],S')∧RowO sz S' S.next [x]∧S'.next=S.next+1∧∀id,2≤id→id<S.next→S'.mem.get id=S.mem.get id:=by
 obtain⟨i,z,hi,hz0,hz1,hz2,hz3⟩:=TT.info
 have hfew:=TT.few
 have hpos:=TT.pos
 have app:appendE E S t t .nils (.sl 1 0 sz [x])=oAppend P S t t .nils (.sl 1 0 sz [x]):=by
  unfold appendE;rw[hM,hP]
 rw[app]
 have hsz:i.size=sz:=hz2
 subst hsz
 subst hz3
 have hb1:i.bytes≤140737488355328:=by omega
 refine⟨S.grown 1 (1*i.size),?_,.inr ⟨hn,Nat.lt_succ_self _,?_⟩,rfl,fun id hne hid=>?_⟩
 ·simp[oAppend,TT.el,TT.un,hi,hz0,hz1,srcA,tipOk,hb1,hpos]
 ·show(S.mem.set S.next _).get S.next=_
  rw[T.get_set,if_pos rfl];simp
 ·show(S.mem.set S.next _).get id=_
  rw[T.get_set,if_neg (by omega)]
end Go.Ax
noncomputable section
namespace Go.Ax
open Go.RowKit Go.Proofs
set_option maxRecDepth 100000
def E1:Env:={ P:=Tryd.prog,G:=fun _=>none,F:=fun k=>match Tryd.prog.funcs[k]? with |some fn=>if fn.body.isSome then some fn else none |none=>none,I:=fun _=>none,M:=fun _=>0 }
theorem e1_names:(Tryd.prog.funcs.toList.all fun fn=>!(fn.name == "runtime.NumGoroutine"))=true:=by kernel_rfl
theorem e1_ok:E1.Ok:=⟨fun k fn h=>by
 simp only[E1]at h
 split at h
 ·rename_i fn' hf
  split at h
  ·rename_i hb
   injection h with h;subst h
   have hm:fn'∈Tryd.prog.funcs.toList:=by
    have:=Array.mem_of_getElem? hf
    simpa using this
   have:=List.all_eq_true.1 e1_names fn' hm
   exact⟨hf,by simpa using this,Option.isSome_iff_exists.1 hb⟩
  ·cases h
 ·cases h⟩
theorem e1_mix:E1.P.follows .mixedOrders=true:=by kernel_rfl
theorem neNil3(a b:AV):neNil Tryd.prog 3 a b=false:=by unfold neNil;rw[Tryd.underlying3]
theorem fb_lss(k:IntKind)(x y:Int):fastBin .lss (.v (.int k x)) (.v (.int k y))=some (.v (.bool (decide (x<y)))):=by simp[fastBin]
theorem fb_leq(k:IntKind)(x y:Int):fastBin .leq (.v (.int k x)) (.v (.int k y))=some (.v (.bool (decide (x≤y)))):=by simp[fastBin]
theorem fb_gtr(k:IntKind)(x y:Int):fastBin .gtr (.v (.int k x)) (.v (.int k y))=some (.v (.bool (decide (x > y)))):=by simp[fastBin]
theorem fb_geq(k:IntKind)(x y:Int):fastBin .geq (.v (.int k x)) (.v (.int k y))=some (.v (.bool (decide (x ≥ y)))):=by simp[fastBin]
theorem fb_add(k:IntKind)(x y:Int):fastBin .add (.v (.int k x)) (.v (.int k y))=some (.v (.int k (k.wrap (x+y)))):=by simp[fastBin]
theorem fb_neqI(k:IntKind)(x y:Int):fastBin .neq (.v (.int k x)) (.v (.int k y))=some (.v (.bool (x != y))):=by simp[fastBin]
theorem fb_eqlI(k:IntKind)(x y:Int):fastBin .eql (.v (.int k x)) (.v (.int k y))=some (.v (.bool (x == y))):=by simp[fastBin]
theorem wrap_nat{n:Nat}(h:n≤1000000000):IntKind.i64.wrap (n:Int)=(n:Int):=by
 rw[← wrap64R_eq]
 have:in64 (n:Int)=true:=Nat.ble_eq_true_of_le (by omega)
 unfold wrap64R
 rw[this]
theorem wrap_add{i j:Nat}(h:i+j≤1000000000):IntKind.i64.wrap ((i:Int)+(j:Int))=((i+j:Nat):Int):=by
 rw[← wrap_nat h];push_cast;rfl
theorem wrap_one{i:Nat}(h:i+1≤1000000000):IntKind.i64.wrap ((i:Int)+1)=((i+1:Nat):Int):=wrap_add (j:=1) h
def groundX(P:Program)(G:Gl)(f:T AV)(S:St)(o:Oper):OR:=ground P G f S o
def notO(r:OR)(S:St)(x:Option AV):OR:=match x with
 |some (.v (.bool b))=>.val (.v (.bool (!b))) S
 |_=>r
theorem notO_bool(r:OR)(S:St)(b:Bool):notO r S (some (.v (.bool b)))=.val (.v (.bool (!b))) S:=rfl
def Keep(S S':St):Prop:=S.next≤S'.next∧∀id,id<S.next→S'.mem.get id=S.mem.get id
theorem Keep.refl(S:St):Keep S S:=⟨Nat.le_refl _,fun _ _=>rfl⟩
theorem Keep.trans{S S1 S2:St}(h:Keep S S1)(k:Keep S1 S2):Keep S S2:=⟨Nat.le_trans h.1 k.1,fun id hid=>(k.2 id (Nat.lt_of_lt_of_le hid h.1)).trans (h.2 id hid)⟩
def St.put(S:St)(id:Nat)(cs:List AV):St:={ S with mem:=S.mem.set id (some (.box cs)) }
section
variable {E:Env} {n:Nat} {f:Fr} {S:St} {Q:O → Prop} {ops:Array Oper} {t:T AV} {ds:List Dfr}
theorem execL_val2{o:Oper}{l:List Oper}{a:AV}{S':St}:execL E n ops o l f S Q (some true) (.val a S')=putL E n ops l o.dst f a S' Q:=_root_.id rfl
theorem execL_skip2{o:Oper}{l:List Oper}{S':St}:execL E n ops o l f S Q (some true) (.skip S')=putL E n ops l o.dst f (.tup []) S' Q:=_root_.id rfl
theorem execL_enter2{o:Oper}{l:List Oper}{k:FuncId}{args:List AV}{S':St}:execL E n ops o l f S Q (some true) (.enter k args S')=WC E k args S' (retL E n ops l o.dst f Q):=_root_.id rfl
theorem putL_none2{l:List Oper}{a:AV}:putL E n ops l none f a S Q=WL E n ops l f S Q:=_root_.id rfl
theorem putL_some2{l:List Oper}{d:Nat}{a:AV}:putL E n ops l (some d) ⟨t,ds⟩ a S Q=(d<n∧WL E n ops l ⟨t.set d (some a),ds⟩ S Q):=_root_.id rfl
theorem retL_ret2{l:List Oper}{dst:Option Tmp}{a:AV}:retL E n ops l dst f Q (.ret a S)=putL E n ops l dst f a S Q:=_root_.id rfl
theorem WR_re2{o:Oper}{l:List RS}:WR E n ops (.re o :: l) f S Q=(againO E ops o f.tmps S=true∧WR E n ops l f S Q):=_root_.id rfl
theorem execR_val2{o:Oper}{l:List RS}{a:AV}{S':St}:execR E n ops o l f S Q (some true) (.val a S')=putRW E n ops l o.dst f a S' Q:=_root_.id rfl
theorem execR_skip2{o:Oper}{l:List RS}{S':St}:execR E n ops o l f S Q (some true) (.skip S')=putRW E n ops l o.dst f (.tup []) S' Q:=_root_.id rfl
theorem execR_enter2{o:Oper}{l:List RS}{k:FuncId}{args:List AV}{S':St}:execR E n ops o l f S Q (some true) (.enter k args S')=WC E k args S' (retRW E n ops l o.dst f Q):=_root_.id rfl
theorem putRW_none2{l:List RS}{a:AV}:putRW E n ops l none f a S Q=WR E n ops l f S Q:=_root_.id rfl
theorem putRW_some2{l:List RS}{d:Nat}{a:AV}:putRW E n ops l (some d) ⟨t,ds⟩ a S Q=(d<n∧WR E n ops l ⟨t.set d (some a),ds⟩ S Q):=_root_.id rfl
theorem retRW_ret2{l:List RS}{dst:Option Tmp}{a:AV}:retRW E n ops l dst f Q (.ret a S)=putRW E n ops l dst f a S Q:=_root_.id rfl
theorem condW_t2{x y:Prop}:condW (some (.v (.bool true))) x y=x:=_root_.id rfl
theorem condW_f2{x y:Prop}:condW (some (.v (.bool false))) x y=y:=_root_.id rfl
theorem seqQ_exit2{b:Code}{id:Nat}:seqQ E n b Q (.out (.exit id) f S)=Q (.out (.exit id) f S):=_root_.id rfl
theorem seqQ_ret2{b:Code}:seqQ E n b Q (.out .ret f S)=Q (.out .ret f S):=_root_.id rfl
theorem blockW_normal2{id:Nat}:blockW id Q (.out .normal f S)=Q (.out .normal f S):=_root_.id rfl
theorem blockW_ret2{id:Nat}:blockW id Q (.out .ret f S)=Q (.out .ret f S):=_root_.id rfl
theorem blockW_exit2{id id':Nat}:blockW id Q (.out (.exit id') f S)=if id' = id then Q (.out .normal f S)else Q (.out (.exit id') f S):=_root_.id rfl
theorem fixQ_normal2{g:Fr}:fixQ ops g Q (.out .normal f S)=Q (.out .normal f S):=_root_.id rfl
end
theorem seqQ_normal2{E:Env}{n:Nat}{f:Fr}{S:St}{Q:O→Prop}{b:Code}:seqQ E n b Q (.out .normal f S)=W E n b f S Q:=_root_.id rfl
theorem WL_nil2{E:Env}{n:Nat}{f:Fr}{S:St}{Q:O→Prop}{ops:Array Oper}:WL E n ops [] f S Q=Q (.out .normal f S):=_root_.id rfl
theorem WR_nil2{E:Env}{n:Nat}{f:Fr}{S:St}{Q:O→Prop}{ops:Array Oper}:WR E n ops [] f S Q=Q (.out .normal f S):=_root_.id rfl
def strS(l:List UInt8):AV:=.v (.string ⟨⟨l⟩⟩)
theorem u9:Tryd.prog.underlying 9=some .string:=by kernel_rfl
theorem neNil9(a b:AV):neNil Tryd.prog 9 a b=false:=by unfold neNil;rw[u9]
theorem neNil5(a b:AV):neNil Tryd.prog 5 a b=false:=by
 have h:Tryd.prog.underlying 5=some (.int .u8):=by kernel_rfl
 unfold neNil;rw[h]
theorem neNil2(a b:AV):neNil Tryd.prog 2 a b=false:=by
 have h:Tryd.prog.underlying 2=some (.int .i64):=by kernel_rfl
 unfold neNil;rw[h]
theorem len9(S:St)(l:List UInt8):oLen Tryd.prog S 9 (.v (.string ⟨⟨l⟩⟩))=some l.length:=by simp only[oLen,u9];rfl
theorem idx9(l:List UInt8)(i:Nat)(h:i<l.length):fastIndex Tryd.prog 9 (.v (.string ⟨⟨l⟩⟩)) (.v (.int .i64 (i:Int)))=some (.v (.int .u8 (l[i].toNat:Int))):=by
 have h0:(0:Int)≤(i:Int):=by omega
 simp only[fastIndex,u9,if_pos h0,Int.toNat_natCast,List.getElem?_eq_getElem h]
theorem fb_catS(a b:List UInt8)(h:a.length+b.length≤4611686018427387904):fastBin .add (.v (.string ⟨⟨a⟩⟩)) (.v (.string ⟨⟨b⟩⟩))=some (.v (.string ⟨⟨a ++ b⟩⟩)):=by
 have h':(⟨⟨a⟩⟩:ByteArray).size+(⟨⟨b⟩⟩:ByteArray).size≤4611686018427387904:=h
 simp only[fastBin,if_pos h']
theorem fb_eqS(l m:List UInt8):fastBin .eql (.v (.string ⟨⟨l⟩⟩)) (.v (.string ⟨⟨m⟩⟩))=some (.v (.bool (decide (l=m)))):=by
 simp only[fastBin,eqBytes_eq]
 have e:(l == m)=decide (l=m):=by rw[Bool.eq_iff_iff];simp
 show some (AV.v (.bool (l == m)))=_
 rw[e]
def growI(sz:Nat)(args:List AV)(S:St):R:=match args with
 | [.nils,.v (.int .i64 n)]=>if n=0 then .ret .nils S else if 0<n∧n≤3000∧0<sz then .ret (.sl S.next 0 sz []) ⟨S.next+1,S.mem.set S.next (some (.tip 0))⟩else .fail
 |_=>.fail
theorem growI_ok{P:Program}{k:FuncId}{sz e:Nat}(h0:∀w,Calls P k #[.slice none 0 0,.int .i64 0] w fun x w'=>x=.returned (.slice none 0 0)∧w' = w)
  (h1:∀(n:Nat) (w:World),0<n→n≤3000→Calls P k #[.slice none 0 0,.int .i64 n] w fun x w'=>∃c,x=.returned (.slice (some ⟨w.heap.size,0,none⟩) 0 c)∧w'.ownsRow w.heap.size e sz (.slice (some ⟨w.heap.size,0,none⟩) 0 c) 0 []∧Below w.heap.size w w')
  (base:Nat) (w0:World) (args:List AV) (S:St) (hne:growI sz args S≠.fail) (γ:Gh) (w:World) (vs:List Value) (hS:SR base w0 γ S w) (hv:VRL γ w args vs):Calls P k vs.toArray w (RetOk base w0 γ S w (growI sz args S)):=by
 generalize hr:growI sz args S=r at hne ⊢
 unfold growI at hr
 split at hr
 ·rename_i n
  obtain⟨x,y,rfl,hx,hy⟩:=hv.two
  cases hx;cases hy
  split at hr
  ·rename_i hn
   subst hn;subst hr
   refine(h0 w).mono fun x w' ⟨hx,hw⟩=>?_
   subst hx;subst hw
   exact⟨γ,_,hS,.refl _ _ _,.nils,rfl⟩
  ·split at hr
   ·rename_i hn
    obtain⟨n1,n2,n3⟩:=hn
    subst hr
    have:=h1 n.toNat w (by omega) (by omega)
    rw[show((n.toNat:Nat):Int)=n by omega]at this
    refine this.mono fun x w' ⟨c,hx,hown,hb⟩=>?_
    subst hx
    obtain⟨k1,k2⟩:=hS.after hb
    rcases hown.2 with⟨hnil,_⟩ | ⟨g,cap,cur,hg,hlo,hcur,hc1,hc2,hc3,hc4⟩
    ·cases hnil
    ·injection hg with hg1 hg2 hg3
     injection hg1 with hg1
     injection hg1 with hg1
     subst hg3;subst hg1
     have hlt:w.heap.size<w'.heap.size:=(Array.getElem?_eq_some_iff.1 hcur).1
     have hf:=k1.fresh S.next (Nat.le_refl _)
     have hnew:∀id c s',S.mem.get id=some c→γ.loc id≠some (w.heap.size,s'):=fun id c s' hm hl=>by
      have:=hS.inb id _ _ hl;omega
     obtain⟨j1,j2⟩:=k1.name w.heap.size 0 (.tip 0) hS.hbase hlt ⟨cur,e,hcur,fun o ho=>by have:=imc_lt hS ho;omega,Nat.zero_le _⟩ hnew
     have hx2:=k2.newName (s:=0) (c:=.tip 0) hf.1 hf.2 rfl
     refine⟨γ.withLoc S.next w.heap.size 0,_,j1,hx2,?_,rfl⟩
     refine .sl S.next 0 sz [] w.heap.size 0 c (fun _=>undef) n3 (fun _ h=>absurd h List.not_mem_nil) (fun _ h=>absurd h List.not_mem_nil) (fun k h=>absurd h (Nat.not_lt_zero k)) (fun k h=>absurd h (Nat.not_lt_zero k)) (fun _=>⟨0,?_,rfl⟩) (fun h=>?_) (Nat.zero_le _) ⟨cur,e,(0,0),hcur,by omega⟩
     ·show(if S.next=S.next then _ else _)=_;rw[if_pos rfl]
     ·have:=hS.pos;omega
   ·exact absurd hr.symm hne
 ·exact absurd hr.symm hne
theorem infoDecl:(Tryd.prog.info? 50).map (fun i=>(i.zero,i.size,i.bytes))=some (some (.agg #[.string ⟨#[]⟩,.int .i64 0,.bool false,.bool false,.string ⟨#[]⟩,.bool false]),6,56):=by kernel_rfl
theorem underDecls:Tryd.prog.underlying 34=some (.slice 50):=by kernel_rfl
theorem infoG_parts{P:Program}{t:TypeId}{z:Option Value}{s b:Nat}(h:(P.info? t).map (fun i=>(i.zero,i.size,i.bytes))=some (z,s,b)):∃i,P.info? t=some i∧i.zero=z∧i.size=s∧i.bytes=b:=by
 cases hi:P.info? t with
 |none=>rw[hi]at h;cases h
 |some i =>
  rw[hi]at h
  simp only[Option.map_some,Option.some.injEq,Prod.mk.injEq]at h
  exact⟨i,rfl,h.1,h.2.1,h.2.2⟩
set_option maxRecDepth 100000 in
theorem grow_none(w:World):Calls Tryd.prog 50 #[.slice none 0 0,.int .i64 0] w fun e w'=>e=.returned (.slice none 0 0)∧w' = w:=by
 go_enter Tryd.func50,Tryd.ntmps50
 go_wp2_with fail
 go_ret
 exact⟨rfl,rfl⟩
set_option maxRecDepth 100000 in
theorem grow_some(n:Nat)(w:World)(h0:0<n)(hn:n≤3000):
  Calls Tryd.prog 50 #[.slice none 0 0,.int .i64 n] w fun e w'=>∃c,e=.returned (.slice (some ⟨w.heap.size,0,none⟩) 0 c)∧w'.ownsRow w.heap.size 50 6 (.slice (some ⟨w.heap.size,0,none⟩) 0 c) 0 []∧Below w.heap.size w w':=by
 obtain⟨i0,hi,hz0,hz1,hz2⟩:=infoG_parts infoDecl
 have hrz:∀ty,(Builtin.append_ #[34,3] ty #[.slice none 0 0,.int .i64 ((n:Nat):Int)]).run Tryd.prog w =
   .ok (.slice (some ⟨w.heap.size,0,none⟩) n (grownCap w n 0 50)) (w.drew.alloc (.cells (#[] ++ Builtin.zeroCells (Value.cells (.agg #[.string ⟨#[]⟩,.int .i64 0,.bool false,.bool false,.string ⟨#[]⟩,.bool false])) n ++ Builtin.zeroCells (Value.cells (.agg #[.string ⟨#[]⟩,.int .i64 0,.bool false,.bool false,.string ⟨#[]⟩,.bool false])) (grownCap w n 0 50 - n)) 50)):=fun ty=>by
  have h:=Lib.run_append_grow_zeros w 34 3 ty 50 i0 _ .i64 .i64 underDecls Tryd.underlying3 hi hz0 none 0 0 [] (by rw[hz1];exact run_firstCells_none w.drew 6 0 0 0) n h0 (by omega) (by omega) (by omega) (by rw[hz2];omega)
   (growslice_fits (by omega) (by rw[hz2];omega))
  simpa using h
 have hG1:=grownCap_ge w n 0 50
 have hG2:=grownCap_le_maxLen w n 0 50 (by unfold maxLen;omega)
 obtain⟨G,hG⟩:∃G,G=grownCap w n 0 50:=⟨_,rfl⟩
 rw[← hG]at hrz hG1 hG2
 clear hG
 have h4:((n:Int) > 0):=by omega
 unfold maxLen at hG2
 go_enter Tryd.func50,Tryd.ntmps50
 go_wp2_with (at_builtin;refine Lib.wpList_append_run _ rfl _ _ _ _ rfl _ _ rfl rfl _ _ (hrz _) ?_)
 all_goals
  go_ret
  refine⟨G,rfl,World.ownsRow_made w.drew _ G (Nat.le_refl _) (by unfold maxLen;omega) ?_,((Below.refl _ _).drew).alloc (Nat.le_refl _) _⟩
  simp only[Array.size_append,size_zeroCells]
  simp[Value.cells]
  omega
theorem grow_I(base:Nat)(w0:World)(args:List AV)(S:St)(hne:growI 6 args S≠.fail)(γ:Gh)(w:World)(vs:List Value)(hS:SR base w0 γ S w)(hv:VRL γ w args vs):Calls Tryd.prog 50 vs.toArray w (RetOk base w0 γ S w (growI 6 args S)) :=
 growI_ok grow_none (fun n w h0 h1=>grow_some n w h0 h1) base w0 args S hne γ w vs hS hv
end Go.Ax
noncomputable section
namespace Go.Ax
open Go.RowKit
open Classical
set_option maxRecDepth 100000
def PureVG(G:Gl)(P:Program)(k:FuncId)(args:List AV)(a:AV):Prop :=
 ∀(w:World) (im:Nat→Nat→Prop),(∀b o,im b o→∃v,w.cell? ⟨b,o,none⟩=some v)→GR ⟨fun _=>none,im⟩ w G→∀vs:List Value,VRL ⟨fun _=>none,im⟩ w args vs→Calls P k vs.toArray w (PureQ w im a)
structure KnG(G:Gl)(P:Program)(Spec:FuncId→List AV→AV→Prop)(k:FuncId)(args:List AV)(a:AV):Prop where
 free:freeV a=true
 cln:clean a=a
 pure:PureVG G P k args a
 spec:Spec k args a
def pureG(G:Gl)(P:Program)(Spec:FuncId→List AV→AV→Prop)(k:FuncId)(args:List AV)(S:St):R :=
 if h:freeL args=true∧∃a,KnG G P Spec k (cleanL args) a then .ret (Classical.choose h.2) S else .fail
theorem pureG_is{G:Gl}{P:Program}{Spec:FuncId→List AV→AV→Prop}{k:FuncId}{args:List AV}(hf:freeL args=true)(h:∃a,KnG G P Spec k (cleanL args) a):∃a,(∀S,pureG G P Spec k args S=.ret a S)∧KnG G P Spec k (cleanL args) a:=by
 have hh:freeL args=true∧∃a,KnG G P Spec k (cleanL args) a:=⟨hf,h⟩
 refine⟨Classical.choose hh.2,fun S=>?_,Classical.choose_spec hh.2⟩
 unfold pureG
 rw[dif_pos hh]
theorem pureG_ok{G:Gl}(hdrop:∀{γ:Gh} {w:World},GR γ w G→GR ⟨fun _=>none,γ.im⟩ w G){P:Program}{Spec:FuncId→List AV→AV→Prop}{k:FuncId}(base:Nat)(w0:World)(args:List AV)(S:St)(hne:pureG G P Spec k args S≠.fail)(γ:Gh)(w:World)(vs:List Value)(hS:SR base w0 γ S w)(hg:GR γ w G)(hv:VRL γ w args vs):
  Calls P k vs.toArray w (RetOk base w0 γ S w (pureG G P Spec k args S)):=by
 by_cases hh:freeL args=true∧∃a,KnG G P Spec k (cleanL args) a
 ·obtain⟨a,ha,hk⟩:=pureG_is hh.1 hh.2
  rw[ha S]
  refine(hk.pure w γ.im hS.imc (hdrop hg) vs (vrl_clean (γ:=γ) (γ':=⟨fun _=>none,γ.im⟩) (fun _ _ h=>h) hv hh.1)).mono fun e w' he=>?_
  obtain⟨v,γ',rfl,hb,hc,hl,hr⟩:=he
  have hi:∀b o,(⟨fun _=>none,fun b o=>γ'.im b o∧w.heap.size≤b⟩:Gh).im b o→w.heap.size≤b∧∃v,w'.cell? ⟨b,o,none⟩=some v:=fun b o ho=>⟨ho.2,hc b o ho.1⟩
  obtain⟨q1,q2⟩:=hS.more hb hi
  refine⟨_,v,q1,q2,hr _ (fun b o ho=>?_),rfl⟩
  by_cases hlt:b<w.heap.size
  ·exact .inl (hl b hlt o ho)
  ·exact .inr ⟨ho,Nat.le_of_not_lt hlt⟩
 ·exfalso
  apply hne
  unfold pureG
  rw[dif_neg hh]
theorem pureOfG{E:Env}(hE:E.Ok)(hI:IntrOk E)(hmix:E.P.follows .mixedOrders=true) {Spec:FuncId→List AV→AV→Prop}{k:FuncId}{args:List AV}(fn:Func)(hF:E.F k=some fn)(hb:fn.body.isSome=true)(hl:args.length≤fn.ntmps)
  (h:W E fn.ntmps (fn.body.getD .skip) ⟨initT args 0,[]⟩ St0 (finW E fn.results.toList (fun r=>∃a S',r=.ret a S'∧freeV a=true∧Spec k args (clean a)))):∃a,KnG E.G E.P Spec k args a:=by
 obtain⟨r,⟨m0,hm⟩,hq⟩:=W_sound h
 have hm:=hm m0 (Nat.le_refl _)
 obtain⟨c,hc⟩:=Option.isSome_iff_exists.1 hb
 rw[hc]at hm
 have give:∀(Q:R→Prop) (f:Fr) (S':St),giveW E fn.results.toList f S' Q→∃l,f.dfr=[]∧resultsA E f.tmps S' fn.results.toList=some l∧Q (.ret (tupA l) S'):=fun Q f S' hg=>by
  unfold giveW at hg
  split at hg
  ·rename_i l h1 h2;exact⟨l,h1,h2,hg⟩
  ·exact hg.elim
 have key:∃a S',stepF (noI2 E k) (run E (drawnNew E) m0) k args St0=.ret a S'∧freeV a=true∧Spec k args (clean a):=by
  have e:stepF (noI2 E k) (run E (drawnNew E) m0) k args St0=endA (noI2 E k) (run E (drawnNew E) m0) fn r:=by
   unfold stepF
   have h1:(noI2 E k).I k=none:=by show(if k=k then none else E.I k)=none;rw[if_pos rfl]
   have h2:(noI2 E k).F k=some fn:=hF
   rw[h1,h2]
   simp only[hc,if_pos hl]
   rw[show run E (drawnNew E) m0 fn.ntmps c ⟨initT args 0,[]⟩ St0=r from hm]
  rw[e]
  cases r with
  |fail=>exact hq.elim
  |out ee f' S' =>
   cases ee with
   |normal =>
    obtain⟨l,h1,h2,a,S2,h3,h4⟩:=give (fun r=>∃a S',r=.ret a S'∧freeV a=true∧Spec k args (clean a)) f' S' hq
    have h2':resultsA (noI2 E k) f'.tmps S' fn.results.toList=some l:=(results_noI E k _ _ _).trans h2
    exact⟨a,S2,by simp only[endA,h1,giveA,h2'];exact h3,h4⟩
   |ret =>
    obtain⟨l,h1,h2,a,S2,h3,h4⟩:=give (fun r=>∃a S',r=.ret a S'∧freeV a=true∧Spec k args (clean a)) f' S' hq
    have h2':resultsA (noI2 E k) f'.tmps S' fn.results.toList=some l:=(results_noI E k _ _ _).trans h2
    exact⟨a,S2,by simp only[endA,h1,giveA,h2'];exact h3,h4⟩
   |pan a =>
    obtain⟨_,_,_,hp,_⟩:=hq
    cases hp
   |exit id=>exact hq.elim
 obtain⟨a,S',hst,hfr,hsp⟩:=key
 refine⟨clean a,(clean_free a hfr).1,(clean_free a hfr).2,fun w im him hgr vs hv=>?_,hsp⟩
 have hS0:SR w.heap.size w ⟨fun _=>none,im⟩ St0 w:=⟨.refl _ _,Nat.le_refl _,him,fun _ _=>⟨rfl,rfl⟩,Nat.le_refl _,fun _ _ _ h=>(by cases h),fun _ _ h=>(by cases h),fun _ _ _ _ _ _ _ h=>(by cases h)⟩
 have hR:CodeOk E (run E (drawnNew E) m0):=run_sound hE hI (drawnNew_ok hE hmix) m0
 have hR':CodeOk (noI2 E k) (run E (drawnNew E) m0):=⟨hR.code,hR.loop⟩
 have hE':(noI2 E k).Ok:=⟨fun j fn h=>hE.fn j fn h⟩
 have hg:GR ⟨fun _=>none,im⟩ w (noI2 E k).G:=hgr
 have:=stepF_sound hE' (noI2_intr hI k) hR' w.heap.size w k args St0 (by rw[hst];intro e;cases e) ⟨fun _=>none,im⟩ w vs hS0 hg hv (by show(E.F k).isSome=true;rw[hF];rfl)
 rw[hst]at this
 refine this.mono fun e w' he=>?_
 obtain⟨γ',v,h1,h2,h3,rfl⟩:=he
 refine⟨v,γ',rfl,h1.below,h1.imc,fun b hlt o ho=>(h2.frame b hlt (fun id c s hm hl=>by cases hl)).2 o ho,fun γ2 h=>h3.clean h hfr⟩
end Go.Ax
