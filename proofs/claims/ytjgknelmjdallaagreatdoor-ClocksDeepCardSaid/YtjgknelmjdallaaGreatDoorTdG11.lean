/- Ha -/
import Derived.Test.YtjgknelmjdallaaGreatDoorTdG10
import Derived.Test.YtjgknelmjdallaaGreatDoorProg
import Derived.ProofKit
import Derived.Laws.Slices
import Derived.IntWalk
import Derived.Lib.AppendZerosOnto
import Derived.Test.YtjgknelmjdallaaGreatDoorAxShelf
import Derived.Lib.AtoiErrMem
import Derived.KernelRfl
import Derived.Lib.ParseIntB
set_option linter.unusedVariables false
set_option linter.unusedSimpArgs false
set_option maxHeartbeats 16000000
noncomputable section
namespace Go.Ax
open Go.RowKit
abbrev ckN (E:Env) (m:Nat):Fl:=Vl E (Dm E) m
def CT (E:Env) (k:FuncId) (args:List AV) (S:St) (r:R):Prop:=∃ m0,∀ m,m0 ≤ m → ckN E m k args S=r
def RT (E:Env) (n:Nat) (c:Code) (f:Fr) (S:St) (r:O):Prop:=∃ m0,∀ m,m0 ≤ m → run E (Dm E) m n c f S=r
def LT (E:Env) (n:Nat) (ops:Array Oper) (l:List Oper) (f:Fr) (S:St) (r:O):Prop:=∃ m0,∀ m,m0 ≤ m → oN E (ckN E m) n ops l f S=r
def DT (E:Env) (n:Nat) (ops:Array Oper) (l:List RS) (f:Fr) (S:St) (r:O):Prop:=∃ m0,∀ m,m0 ≤ m → F1 E (ckN E m) n ops l f S=r
def WC (E:Env) (k:FuncId) (args:List AV) (S:St) (Q:R → Prop):Prop:=∃ r,CT E k args S r ∧ Q r
def WX (E:Env) (n:Nat) (c:Code) (f:Fr) (S:St) (Q:O → Prop):Prop:=∃ r,RT E n c f S r ∧ Q r
def kZ (n:Nat) (f:Fr) (dst:Option Tmp) (a:AV) (S:St) (K:Fr → St → Prop):Prop:=match dst with
 | none=>K f S
 | some d=>d < n ∧ K { f with tmps:=f.tmps.set d (some a) } S
def retW (n:Nat) (f:Fr) (dst:Option Tmp) (K:Fr → St → Prop) (Q:O → Prop):R → Prop
 | .ret a S=>kZ n f dst a S K
 | .pan a S=>Q (.out (.pan a) f S)
 | .fail=>False
def execW (E:Env) (n:Nat) (o:Oper) (f:Fr) (K:Fr → St → Prop) (Q:O → Prop):OR → Prop
 | .val a S'=>kZ n f o.dst a S' K
 | .skip S'=>kZ n f o.dst (.tup []) S' K
 | .enter k args S'=>WC E k args S' (retW n f o.dst K Q)
 | .dfr fn caps args S'=>kZ n { f with dfr:=⟨fn,caps,args⟩ :: f.dfr } o.dst (.tup []) S' K
 | .pan a S'=>Q (.out (.pan a) f S')
 | .fail=>False
def jF (E:Env) (n:Nat) (ops:Array Oper) (o:Oper) (f:Fr) (S:St) (K:Fr → St → Prop) (Q:O → Prop):Prop:=match A5 ops o f.tmps with
 | none=>False
 | some false=>kZ n f o.dst (.tup []) S K
 | some true=>execW E n o f K Q (Bc E f.tmps S o)
def WL (E:Env) (n:Nat) (ops:Array Oper):List Oper → Fr → St → (O → Prop) → Prop
 | [],f,S,Q=>Q (.out .normal f S)
 | o :: l,f,S,Q=>jF E n ops o f S (fun f' S'=>WL E n ops l f' S' Q) Q
def WR (E:Env) (n:Nat) (ops:Array Oper):List RS → Fr → St → (O → Prop) → Prop
 | [],f,S,Q=>Q (.out .normal f S)
 | .op o :: l,f,S,Q=>jF E n ops o f S (fun f' S'=>WR E n ops l f' S' Q) Q
 | .re o :: l,f,S,Q=>D6 E ops o f.tmps S=true ∧ WR E n ops l f S Q
def WD (E:Env) (n:Nat) (ops:Array Oper) (f:Fr) (S:St) (Q:O → Prop):Prop:=∃ r,(∃ m0,∀ m,m0 ≤ m → Dm E (ckN E m) n ops f S=r) ∧ Q r
def Zp (K:Fr → St → Prop) (Q:O → Prop):O → Prop
 | .out .normal f S=>K f S
 | r=>Q r
def Ro (id:Nat) (Q:O → Prop):O → Prop
 | .out (.exit id') f S=>if id' = id then Q (.out .normal f S) else Q (.out (.exit id') f S)
 | r=>Q r
def eI (c:Option AV) (x y:Prop):Prop:=match c with
 | some (.v (.bool true))=>x
 | some (.v (.bool false))=>y
 | _=>False
def W (E:Env) (n:Nat) (c:Code) (f:Fr) (S:St) (Q:O → Prop):Prop:=match c with
 | .skip=>Q (.out .normal f S)
 | .label _=>Q (.out .normal f S)
 | .region _ ops false=>WL E n ops ops.toList f S Q
 | .region _ ops true=>WD E n ops f S Q
 | .seq a b=>W E n a f S (Zp (fun f' S'=>W E n b f' S' Q) Q)
 | .cond c x y=>eI (Ba E.G f.tmps c) (W E n x f S Q) (W E n y f S Q)
 | .block id c=>W E n c f S (Ro id Q)
 | .loop c=>WX E n (.loop c) f S Q
 | .exit id=>Q (.out (.exit id) f S)
 | .ret=>Q (.out .ret f S)
 | _=>False
theorem run_succ (E:Env) (m n:Nat) (c:Code) (f:Fr) (S:St):run E (Dm E) (m + 1) n c f S=Ft E (Dm E) (run E (Dm E) m) (ckN E m) n c f S:=rfl
theorem gD {n:Nat} {f:Fr} {dst:Option Tmp} {a:AV} {S:St} {K:Fr → St → Prop} (h:kZ n f dst a S K):∃ f',Pr n f dst a S=.out .normal f' S ∧ K f' S:=by
 unfold kZ at h; unfold Pr
 cases dst with
 | none=>exact ⟨f,rfl,h⟩
 | some d=>exact ⟨_,by simp only [if_pos h.1],h.2⟩
theorem nQ {E:Env} {n:Nat} {ops:Array Oper} {o:Oper} {f:Fr} {S:St} {K:Fr → St → Prop} {Q:O → Prop} (h:jF E n ops o f S K Q) :
  ∃ m0,(∃ f' S',K f' S' ∧ ∀ m,m0 ≤ m → Gv E (ckN E m) n ops o f S=.out .normal f' S') ∨ (∃ a f' S',Q (.out (.pan a) f' S') ∧ ∀ m,m0 ≤ m → Gv E (ckN E m) n ops o f S=.out (.pan a) f' S'):=by
 unfold jF at h
 have hput:∀ {dst a S'},kZ n f dst a S' K → (∀ m,Gv E (ckN E m) n ops o f S=Pr n f dst a S') → ∃ m0,(∃ f' S',K f' S' ∧ ∀ m,m0 ≤ m → Gv E (ckN E m) n ops o f S=.out .normal f' S') ∨ (∃ a f' S',Q (.out (.pan a) f' S') ∧ ∀ m,m0 ≤ m → Gv E (ckN E m) n ops o f S=.out (.pan a) f' S'):=fun hp he=>by
  obtain ⟨f',e,hk⟩:=gD hp
  exact ⟨0,.inl ⟨f',_,hk,fun m _=>(he m).trans e⟩⟩
 cases hw:A5 ops o f.tmps with
 | none=>rw [hw] at h; exact h.elim
 | some b =>
  rw [hw] at h
  cases b with
  | false=>exact hput h (fun m=>by unfold Gv; rw [hw])
  | true =>
   unfold execW at h
   simp only at h
   cases hx:Bc E f.tmps S o with
   | val a S'=>rw [hx] at h; exact hput h (fun m=>by unfold Gv; rw [hw]; simp only [hx])
   | skip S'=>rw [hx] at h; exact hput h (fun m=>by unfold Gv; rw [hw]; simp only [hx])
   | enter k args S' =>
    rw [hx] at h
    obtain ⟨r,⟨m0,hm⟩,hq⟩:=h
    unfold retW at hq
    cases r with
    | ret a S2 =>
     obtain ⟨f',e,hk⟩:=gD hq
     exact ⟨m0,.inl ⟨f',_,hk,fun m h=>by unfold Gv; rw [hw]; simp only [hx,hm m h,e]⟩⟩
    | pan a S2=>exact ⟨m0,.inr ⟨a,_,_,hq,fun m h=>by unfold Gv; rw [hw]; simp only [hx,hm m h]⟩⟩
    | fail=>exact hq.elim
   | dfr fn caps args S' =>
    rw [hx] at h
    obtain ⟨f',e,hk⟩:=gD h
    exact ⟨0,.inl ⟨f',_,hk,fun m _=>by unfold Gv; rw [hw]; simp only [hx,e]⟩⟩
   | pan a S'=>rw [hx] at h; exact ⟨0,.inr ⟨a,_,_,h,fun m _=>by unfold Gv; rw [hw]; simp only [hx]⟩⟩
   | fail=>rw [hx] at h; exact h.elim
theorem WL_sound {E:Env} {n:Nat} {ops:Array Oper}:∀ {l:List Oper} {f:Fr} {S:St} {Q:O → Prop},WL E n ops l f S Q → ∃ r,LT E n ops l f S r ∧ Q r
 | [],f,S,Q,h=>⟨_,⟨0,fun _ _=>rfl⟩,h⟩
 | o :: l,f,S,Q,h=>by
  obtain ⟨m0,⟨f',S',hk,hm⟩ | ⟨a,f',S',hq,hm⟩⟩:=nQ h
  ·obtain ⟨r,⟨m1,h1⟩,h2⟩:=WL_sound hk
   exact ⟨r,⟨max m0 m1,fun m hmm=>by
    show (match Gv E (ckN E m) n ops o f S with | .out .normal f' S'=>oN E (ckN E m) n ops l f' S' | x=>x)=r
    rw [hm m (by omega)]; exact h1 m (by omega)⟩,h2⟩
  ·exact ⟨_,⟨m0,fun m hmm=>by
    show (match Gv E (ckN E m) n ops o f S with | .out .normal f' S'=>oN E (ckN E m) n ops l f' S' | x=>x)=_
    rw [hm m hmm]⟩,hq⟩
theorem Yk {E:Env} {n:Nat} {ops:Array Oper}:∀ {l:List RS} {f:Fr} {S:St} {Q:O → Prop},WR E n ops l f S Q → ∃ r,DT E n ops l f S r ∧ r ≠ .fail ∧ Q r
 | [],f,S,Q,h=>⟨_,⟨0,fun _ _=>rfl⟩,(fun e=>by cases e),h⟩
 | .op o :: l,f,S,Q,h=>by
  obtain ⟨m0,⟨f',S',hk,hm⟩ | ⟨a,f',S',hq,hm⟩⟩:=nQ h
  ·obtain ⟨r,⟨m1,h1⟩,h3,h2⟩:=Yk hk
   exact ⟨r,⟨max m0 m1,fun m hmm=>by
    show (match Gv E (ckN E m) n ops o f S with | .out .normal f' S'=>F1 E (ckN E m) n ops l f' S' | x=>x)=r
    rw [hm m (by omega)]; exact h1 m (by omega)⟩,h3,h2⟩
  ·exact ⟨_,⟨m0,fun m hmm=>by
    show (match Gv E (ckN E m) n ops o f S with | .out .normal f' S'=>F1 E (ckN E m) n ops l f' S' | x=>x)=_
    rw [hm m hmm]⟩,(fun e=>by cases e),hq⟩
 | .re o :: l,f,S,Q,h=>by
  obtain ⟨r,⟨m1,h1⟩,h3,h2⟩:=Yk h.2
  exact ⟨r,⟨m1,fun m hmm=>by
   show (if D6 E ops o f.tmps S=true then F1 E (ckN E m) n ops l f S else .fail)=r
   rw [if_pos h.1]; exact h1 m hmm⟩,h3,h2⟩
theorem WD_steps {E:Env} {n:Nat} {ops:Array Oper} {f:Fr} {S:St} {Q:O → Prop} {rs:List RS} (h3:Rg ops (bm ops.toList []) (Rb ops (bm ops.toList []) ops.size (List.range ops.size) 0) []=some rs)
  (h2:Vx ops (bm ops.toList []) (Rb ops (bm ops.toList []) ops.size (List.range ops.size) 0)=true) (h:WR E n ops rs f S (fun r=>Q (Q8 ⟨I3 ops.toList f.tmps,f.dfr⟩ r))):WD E n ops f S Q:=by
 obtain ⟨r,⟨m0,hm⟩,hne,hq⟩:=Yk h
 have h1:Ss E.P ops=none:=by unfold Ss; simp only [h2,if_true]
 have h1m:Wf E.P ops=none:=by unfold Wf; simp only [h2,if_true]
 refine ⟨_,⟨m0,fun m hmm=>?_⟩,hq⟩
 unfold Dm
 rw [h1]
 simp only [h1m]
 unfold Jn
 simp only
 rw [if_pos h2]
 rcases Ot (E:=E) (ck:=ckN E m) (n:=n) (fb:=⟨I3 ops.toList f.tmps,f.dfr⟩) _ rs f S [] h3 (fun _ h=>absurd h List.not_mem_nil) with h | h
 ·rw [hm m hmm] at h; exact absurd h hne
 ·rw [h,hm m hmm]
theorem WD_fl {E:Env} {n:Nat} {ops:Array Oper} {f:Fr} {S:St} {Q:O → Prop} {x:FlP} {rs:List RS} (h1:Ss E.P ops=some x) (h2:Vo ops x=some rs) (h3:x.d < n)
  (h:WR E n ops rs ⟨f.tmps.set x.d none,f.dfr⟩ S (fun r=>Q (Q8 ⟨I3 ops.toList f.tmps,f.dfr⟩ r))):WD E n ops f S Q:=by
 obtain ⟨r,⟨m0,hm⟩,hne,hq⟩:=Yk h
 refine ⟨_,⟨m0,fun m hmm=>?_⟩,hq⟩
 unfold Dm
 rw [h1]
 simp only
 unfold Wr
 rw [h2]
 simp only
 rw [if_pos h3,hm m hmm]
def F4 (ops:Array Oper):List (Nat × Bool) → List RS
 | []=>[]
 | (i,b) :: r=>match ops[i]? with
  | some o=>(if b then RS.op o else RS.re o) :: F4 ops r
  | none=>[]
theorem Bw (K:Fr → St → Prop) (Q:O → Prop) (f:Fr) (S:St):Zp K Q (.out .normal f S)=K f S:=rfl
theorem Bv (K:Fr → St → Prop) (Q:O → Prop) (id:Nat) (f:Fr) (S:St):Zp K Q (.out (.exit id) f S)=Q (.out (.exit id) f S):=rfl
theorem Dk (K:Fr → St → Prop) (Q:O → Prop) (f:Fr) (S:St):Zp K Q (.out .ret f S)=Q (.out .ret f S):=rfl
theorem Dy (K:Fr → St → Prop) (Q:O → Prop) (a:AV) (f:Fr) (S:St):Zp K Q (.out (.pan a) f S)=Q (.out (.pan a) f S):=rfl
theorem Dh {E:Env} {n:Nat}:∀ {c:Code} {f:Fr} {S:St} {Q:O → Prop},W E n c f S Q → WX E n c f S Q:=by
 have up:∀ {c:Code} {f:Fr} {S:St} {r:O},(∃ m0,∀ m,m0 ≤ m → Ft E (Dm E) (run E (Dm E) m) (ckN E m) n c f S=r) → RT E n c f S r:=fun ⟨m0,h⟩=>⟨m0 + 1,fun m hm=>by
  obtain ⟨k,rfl⟩:∃ k,m=k + 1:=⟨m - 1,by omega⟩
  rw [run_succ]; exact h k (by omega)⟩
 intro c
 induction c with
 | skip=>intro f S Q h; unfold W at h; exact ⟨_,up ⟨0,fun _ _=>rfl⟩,h⟩
 | label l=>intro f S Q h; unfold W at h; exact ⟨_,up ⟨0,fun _ _=>rfl⟩,h⟩
 | region id ops draw =>
  intro f S Q h
  unfold W at h
  cases draw with
  | false =>
   obtain ⟨r,⟨m0,hm⟩,hq⟩:=WL_sound h
   exact ⟨r,up ⟨m0,fun m hmm=>hm m hmm⟩,hq⟩
  | true =>
   obtain ⟨r,⟨m0,hm⟩,hq⟩:=h
   exact ⟨r,up ⟨m0,fun m hmm=>hm m hmm⟩,hq⟩
 | seq a b iha ihb =>
  intro f S Q h
  unfold W at h
  obtain ⟨r,⟨m0,hm⟩,hq⟩:=iha h
  have other:Zp (fun f' S'=>W E n b f' S' Q) Q r=Q r → (∀ m,m0 ≤ m → Ft E (Dm E) (run E (Dm E) m) (ckN E m) n (.seq a b) f S=r) → WX E n (.seq a b) f S Q:=fun e he=>⟨r,up ⟨m0,he⟩,by rw [← e]; exact hq⟩
  cases r with
  | fail=>exact other rfl (fun m hmm=>by unfold Ft; simp only [hm m hmm])
  | out e f' S' =>
   cases e with
   | normal =>
    obtain ⟨r,⟨m1,h1⟩,hq⟩:=ihb hq
    exact ⟨r,up ⟨max m0 m1,fun m hmm=>by
     unfold Ft; simp only
     rw [hm m (by omega)]; exact h1 m (by omega)⟩,hq⟩
   | exit id=>exact other rfl (fun m hmm=>by unfold Ft; simp only [hm m hmm])
   | ret=>exact other rfl (fun m hmm=>by unfold Ft; simp only [hm m hmm])
   | pan a=>exact other rfl (fun m hmm=>by unfold Ft; simp only [hm m hmm])
 | cond c x y ihx ihy =>
  intro f S Q h
  unfold W at h
  unfold eI at h
  split at h
  ·rename_i hc
   obtain ⟨r,⟨m0,hm⟩,hq⟩:=ihx h
   exact ⟨r,up ⟨m0,fun m hmm=>by unfold Ft; simp only [hc]; exact hm m hmm⟩,hq⟩
  ·rename_i hc
   obtain ⟨r,⟨m0,hm⟩,hq⟩:=ihy h
   exact ⟨r,up ⟨m0,fun m hmm=>by unfold Ft; simp only [hc]; exact hm m hmm⟩,hq⟩
  ·exact h.elim
 | block id c ih =>
  intro f S Q h
  unfold W at h
  obtain ⟨r,⟨m0,hm⟩,hq⟩:=ih h
  have other:Ro id Q r=Q r → (∀ m,m0 ≤ m → Ft E (Dm E) (run E (Dm E) m) (ckN E m) n (.block id c) f S=r) → WX E n (.block id c) f S Q:=fun e he=>⟨r,up ⟨m0,he⟩,by rw [← e]; exact hq⟩
  cases r with
  | fail=>exact other rfl (fun m hmm=>by unfold Ft; simp only [hm m hmm])
  | out e f' S' =>
   cases e with
   | exit id' =>
    unfold Ro at hq
    simp only at hq
    by_cases hi:id' = id
    ·rw [if_pos hi] at hq
     exact ⟨_,up ⟨m0,fun m hmm=>by unfold Ft; simp only [hm m hmm,if_pos hi]⟩,hq⟩
    ·rw [if_neg hi] at hq
     exact ⟨_,up ⟨m0,fun m hmm=>by unfold Ft; simp only [hm m hmm,if_neg hi]⟩,hq⟩
   | normal=>exact other rfl (fun m hmm=>by unfold Ft; simp only [hm m hmm])
   | ret=>exact other rfl (fun m hmm=>by unfold Ft; simp only [hm m hmm])
   | pan a=>exact other rfl (fun m hmm=>by unfold Ft; simp only [hm m hmm])
 | loop c ih=>intro f S Q h; unfold W at h; exact h
 | exit id=>intro f S Q h; unfold W at h; exact ⟨_,up ⟨0,fun _ _=>rfl⟩,h⟩
 | ret=>intro f S Q h; unfold W at h; exact ⟨_,up ⟨0,fun _ _=>rfl⟩,h⟩
 | _=>intro f S Q h; unfold W at h; exact h.elim
theorem WX.mono {E:Env} {n:Nat} {c:Code} {f:Fr} {S:St} {Q Q':O → Prop} (h:WX E n c f S Q) (hq:∀ r,Q r → Q' r):WX E n c f S Q':=by
 obtain ⟨r,h1,h2⟩:=h; exact ⟨r,h1,hq r h2⟩
theorem WC.mono {E:Env} {k:FuncId} {args:List AV} {S:St} {Q Q':R → Prop} (h:WC E k args S Q) (hq:∀ r,Q r → Q' r):WC E k args S Q':=by
 obtain ⟨r,h1,h2⟩:=h; exact ⟨r,h1,hq r h2⟩
theorem Do {E:Env} {n:Nat} {c:Code} {f:Fr} {S:St} {Q:O → Prop} (h:WX E n c f S (Zp (fun f' S'=>WX E n (.loop c) f' S' Q) Q)):WX E n (.loop c) f S Q:=by
 obtain ⟨r,⟨m0,hm⟩,hq⟩:=h
 have up:∀ {r:O},(∃ m0,∀ m,m0 ≤ m → Ft E (Dm E) (run E (Dm E) m) (ckN E m) n (.loop c) f S=r) → RT E n (.loop c) f S r:=fun ⟨m0,h⟩=>⟨m0 + 1,fun m hm=>by
  obtain ⟨k,rfl⟩:∃ k,m=k + 1:=⟨m - 1,by omega⟩
  rw [run_succ]; exact h k (by omega)⟩
 have other:Zp (fun f' S'=>WX E n (.loop c) f' S' Q) Q r=Q r → (∀ m,m0 ≤ m → Ft E (Dm E) (run E (Dm E) m) (ckN E m) n (.loop c) f S=r) → WX E n (.loop c) f S Q:=fun e he=>⟨r,up ⟨m0,he⟩,by rw [← e]; exact hq⟩
 cases r with
 | fail=>exact other rfl (fun m hmm=>by unfold Ft; simp only [hm m hmm])
 | out e f' S' =>
  cases e with
  | normal =>
   obtain ⟨r,⟨m1,h1⟩,hq⟩:=hq
   exact ⟨r,up ⟨max m0 m1,fun m hmm=>by
    unfold Ft; simp only
    rw [hm m (by omega)]; exact h1 m (by omega)⟩,hq⟩
  | exit id=>exact other rfl (fun m hmm=>by unfold Ft; simp only [hm m hmm])
  | ret=>exact other rfl (fun m hmm=>by unfold Ft; simp only [hm m hmm])
  | pan a=>exact other rfl (fun m hmm=>by unfold Ft; simp only [hm m hmm])
def B0 (E:Env) (rs:List ResultVar) (f:Fr) (S:St) (Q:R → Prop):Prop:=match f.dfr,Bg E f.tmps S rs with
 | [],some l=>Q (.ret (Cs l) S)
 | _,_=>False
def finW (E:Env) (rs:List ResultVar) (Q:R → Prop):O → Prop
 | .out .normal f S=>B0 E rs f S Q
 | .out .ret f S=>B0 E rs f S Q
 | .out (.pan a) f S=>f.dfr=[] ∧ Q (.pan a S)
 | _=>False
theorem WC_ext {E:Env} {k:FuncId} {args:List AV} {S:St} {Q:R → Prop} (fn:Func) (hI:E.I k=none) (hF:E.F k=some fn) (hb:fn.body.isSome=true) (hl:args.length ≤ fn.ntmps)
  (h:WX E fn.ntmps (fn.body.getD .skip) ⟨Ce args 0,[]⟩ S (finW E fn.results.toList Q)):WC E k args S Q:=by
 obtain ⟨r,⟨m0,hm⟩,hq⟩:=h
 obtain ⟨c,hc⟩:=Option.isSome_iff_exists.1 hb
 have key:∀ m,m0 ≤ m → ckN E m k args S=dW E (run E (Dm E) m) fn r:=fun m hmm=>by
  show Nq E (run E (Dm E) m) k args S=_
  unfold Nq
  rw [hI,hF]
  simp only [hc,if_pos hl]
  have:=hm m hmm
  rw [hc] at this
  rw [show run E (Dm E) m fn.ntmps c ⟨Ce args 0,[]⟩ S=r from this]
 have give:∀ (f:Fr) (S':St),B0 E fn.results.toList f S' Q → ∃ l,f.dfr=[] ∧ Bg E f.tmps S' fn.results.toList=some l ∧ Q (.ret (Cs l) S'):=fun f S' hg=>by
  unfold B0 at hg
  split at hg
  ·rename_i l h1 h2; exact ⟨l,h1,h2,hg⟩
  ·exact hg.elim
 cases r with
 | fail=>exact hq.elim
 | out e f' S' =>
  cases e with
  | normal =>
   obtain ⟨l,h1,h2,h3⟩:=give f' S' hq
   exact ⟨_,⟨m0,fun m hmm=>by rw [key m hmm]; simp only [dW,h1,Pk,h2]⟩,h3⟩
  | ret =>
   obtain ⟨l,h1,h2,h3⟩:=give f' S' hq
   exact ⟨_,⟨m0,fun m hmm=>by rw [key m hmm]; simp only [dW,h1,Pk,h2]⟩,h3⟩
  | pan a=>exact ⟨_,⟨m0,fun m hmm=>by rw [key m hmm]; simp only [dW,hq.1]⟩,hq.2⟩
  | exit id=>exact hq.elim
theorem Dv {E:Env} {k:FuncId} {args:List AV} {S:St} {Q:R → Prop} (fn:Func) (hI:E.I k=none) (hF:E.F k=some fn) (hb:fn.body.isSome=true) (hl:args.length ≤ fn.ntmps)
  (h:W E fn.ntmps (fn.body.getD .skip) ⟨Ce args 0,[]⟩ S (finW E fn.results.toList Q)):WC E k args S Q:=WC_ext fn hI hF hb hl (Dh h)
theorem Ln {E:Env} {k:FuncId} {args:List AV} {S:St} {Q:R → Prop} {g:List AV → St → R} (hI:E.I k=some g) (h:Q (g args S)):WC E k args S Q :=
 ⟨_,⟨0,fun m _=>by show Nq E (run E (Dm E) m) k args S=_; unfold Nq; rw [hI]⟩,h⟩
def yT (E:Env) (n:Nat) (b:Code) (Q:O → Prop):O → Prop:=Zp (fun f S=>W E n b f S Q) Q
def W5 (E:Env) (n:Nat) (ops:Array Oper) (o:Oper) (l:List Oper) (f:Fr) (S:St) (Q:O → Prop):Option Bool → OR → Prop
 | none,_=>False
 | some false,_=>kZ n f o.dst (.tup []) S (fun f' S'=>WL E n ops l f' S' Q)
 | some true,x=>execW E n o f (fun f' S'=>WL E n ops l f' S' Q) Q x
def Zz (E:Env) (n:Nat) (ops:Array Oper) (o:Oper) (l:List RS) (f:Fr) (S:St) (Q:O → Prop):Option Bool → OR → Prop
 | none,_=>False
 | some false,_=>kZ n f o.dst (.tup []) S (fun f' S'=>WR E n ops l f' S' Q)
 | some true,x=>execW E n o f (fun f' S'=>WR E n ops l f' S' Q) Q x
def gE (E:Env) (n:Nat) (ops:Array Oper) (l:List Oper) (dst:Option Tmp) (f:Fr) (a:AV) (S:St) (Q:O → Prop):Prop:=kZ n f dst a S (fun f' S'=>WL E n ops l f' S' Q)
def Xr (E:Env) (n:Nat) (ops:Array Oper) (l:List RS) (dst:Option Tmp) (f:Fr) (a:AV) (S:St) (Q:O → Prop):Prop:=kZ n f dst a S (fun f' S'=>WR E n ops l f' S' Q)
def retL (E:Env) (n:Nat) (ops:Array Oper) (l:List Oper) (dst:Option Tmp) (f:Fr) (Q:O → Prop):R → Prop:=retW n f dst (fun f' S'=>WL E n ops l f' S' Q) Q
def uS (E:Env) (n:Nat) (ops:Array Oper) (l:List RS) (dst:Option Tmp) (f:Fr) (Q:O → Prop):R → Prop:=retW n f dst (fun f' S'=>WR E n ops l f' S' Q) Q
def fixQ (ops:Array Oper) (f:Fr) (Q:O → Prop):O → Prop:=fun r=>Q (Q8 ⟨I3 ops.toList f.tmps,f.dfr⟩ r)
section
variable {E:Env} {n:Nat} {f:Fr} {S:St} {Q:O → Prop} {ops:Array Oper} {t:T AV} {ds:List Dfr}
theorem Bo:W E n .skip f S Q=Q (.out .normal f S):=by unfold W; rfl
theorem A6 {id:Nat}:W E n (.region id ops false) f S Q=WL E n ops ops.toList f S Q:=by unfold W; rfl
theorem Co {id:Nat}:W E n (.region id ops true) f S Q=WD E n ops f S Q:=by unfold W; rfl
theorem Bk {a b:Code}:W E n (.seq a b) f S Q=W E n a f S (yT E n b Q):=by show W E n (.seq a b) f S Q=W E n a f S (Zp (fun f S=>W E n b f S Q) Q); conv=>lhs; unfold W
theorem Bl {c:Operand} {x y:Code}:W E n (.cond c x y) f S Q=eI (Ba E.G f.tmps c) (W E n x f S Q) (W E n y f S Q):=by conv=>lhs; unfold W
theorem Bq {id:Nat} {c:Code}:W E n (.block id c) f S Q=W E n c f S (Ro id Q):=by conv=>lhs; unfold W
theorem Dx {c:Code}:W E n (.loop c) f S Q=WX E n (.loop c) f S Q:=by unfold W; rfl
theorem C1 {id:Nat}:W E n (.exit id) f S Q=Q (.out (.exit id) f S):=by unfold W; rfl
theorem B1:W E n .ret f S Q=Q (.out .ret f S):=by unfold W; rfl
theorem Bj {b:Code}:yT E n b Q (.out .normal f S)=W E n b f S Q:=rfl
theorem C7 {b:Code} {id:Nat}:yT E n b Q (.out (.exit id) f S)=Q (.out (.exit id) f S):=rfl
theorem Dd {b:Code}:yT E n b Q (.out .ret f S)=Q (.out .ret f S):=rfl
theorem Cl {b:Code} {a:AV}:yT E n b Q (.out (.pan a) f S)=Q (.out (.pan a) f S):=rfl
theorem Cf {id:Nat}:Ro id Q (.out .normal f S)=Q (.out .normal f S):=rfl
theorem C9 {id:Nat}:Ro id Q (.out .ret f S)=Q (.out .ret f S):=rfl
theorem Dc {id:Nat} {a:AV}:Ro id Q (.out (.pan a) f S)=Q (.out (.pan a) f S):=rfl
theorem C5 {id id':Nat}:Ro id Q (.out (.exit id') f S)=if id' = id then Q (.out .normal f S) else Q (.out (.exit id') f S):=rfl
theorem Ch:WL E n ops [] f S Q=Q (.out .normal f S):=rfl
theorem A7 {o:Oper} {l:List Oper}:WL E n ops (o :: l) f S Q=W5 E n ops o l f S Q (A5 ops o f.tmps) (Bc E f.tmps S o):=by
 show jF E n ops o f S (fun f' S'=>WL E n ops l f' S' Q) Q=_
 unfold jF
 cases A5 ops o f.tmps with
 | none=>rfl
 | some b=>cases b <;> rfl
theorem C0 {o:Oper} {l:List Oper} {x:OR}:W5 E n ops o l f S Q (some false) x=gE E n ops l o.dst f (.tup []) S Q:=by cases x <;> rfl
theorem Bf {o:Oper} {l:List Oper} {a:AV} {S':St}:W5 E n ops o l f S Q (some true) (.val a S')=gE E n ops l o.dst f a S' Q:=rfl
theorem Br {o:Oper} {l:List Oper} {S':St}:W5 E n ops o l f S Q (some true) (.skip S')=gE E n ops l o.dst f (.tup []) S' Q:=rfl
theorem Bh {o:Oper} {l:List Oper} {k:FuncId} {args:List AV} {S':St}:W5 E n ops o l f S Q (some true) (.enter k args S')=WC E k args S' (retL E n ops l o.dst f Q):=rfl
theorem Hx {o:Oper} {l:List Oper} {fn:Fn} {caps args:List AV} {S':St}:W5 E n ops o l f S Q (some true) (.dfr fn caps args S')=gE E n ops l o.dst { f with dfr:=⟨fn,caps,args⟩ :: f.dfr } (.tup []) S' Q:=rfl
theorem D5 {o:Oper} {l:List Oper} {a:AV} {S':St}:W5 E n ops o l f S Q (some true) (.pan a S')=Q (.out (.pan a) f S'):=rfl
theorem Bu {l:List Oper} {a:AV}:gE E n ops l none f a S Q=WL E n ops l f S Q:=rfl
theorem Bd {l:List Oper} {d:Nat} {a:AV}:gE E n ops l (some d) ⟨t,ds⟩ a S Q=(d < n ∧ WL E n ops l ⟨t.set d (some a),ds⟩ S Q):=rfl
theorem Bp {l:List Oper} {dst:Option Tmp} {a:AV}:retL E n ops l dst f Q (.ret a S)=gE E n ops l dst f a S Q:=rfl
theorem Cq {l:List Oper} {dst:Option Tmp} {a:AV}:retL E n ops l dst f Q (.pan a S)=Q (.out (.pan a) f S):=rfl
theorem Nh:WR E n ops [] f S Q=Q (.out .normal f S):=rfl
theorem Dr {o:Oper} {l:List RS}:WR E n ops (.op o :: l) f S Q=Zz E n ops o l f S Q (A5 ops o f.tmps) (Bc E f.tmps S o):=by
 show jF E n ops o f S (fun f' S'=>WR E n ops l f' S' Q) Q=_
 unfold jF
 cases A5 ops o f.tmps with
 | none=>rfl
 | some b=>cases b <;> rfl
theorem Kf {o:Oper} {l:List RS}:WR E n ops (.re o :: l) f S Q=(D6 E ops o f.tmps S=true ∧ WR E n ops l f S Q):=rfl
theorem Ii {o:Oper} {l:List RS} {x:OR}:Zz E n ops o l f S Q (some false) x=Xr E n ops l o.dst f (.tup []) S Q:=by cases x <;> rfl
theorem Ee {o:Oper} {l:List RS} {a:AV} {S':St}:Zz E n ops o l f S Q (some true) (.val a S')=Xr E n ops l o.dst f a S' Q:=rfl
theorem Fb {o:Oper} {l:List RS} {S':St}:Zz E n ops o l f S Q (some true) (.skip S')=Xr E n ops l o.dst f (.tup []) S' Q:=rfl
theorem Eb {o:Oper} {l:List RS} {k:FuncId} {args:List AV} {S':St}:Zz E n ops o l f S Q (some true) (.enter k args S')=WC E k args S' (uS E n ops l o.dst f Q):=rfl
theorem Fa {l:List RS} {a:AV}:Xr E n ops l none f a S Q=WR E n ops l f S Q:=rfl
theorem Du {l:List RS} {d:Nat} {a:AV}:Xr E n ops l (some d) ⟨t,ds⟩ a S Q=(d < n ∧ WR E n ops l ⟨t.set d (some a),ds⟩ S Q):=rfl
theorem Ep {l:List RS} {dst:Option Tmp} {a:AV}:uS E n ops l dst f Q (.ret a S)=Xr E n ops l dst f a S Q:=rfl
theorem Fp {l:List RS} {dst:Option Tmp} {a:AV}:uS E n ops l dst f Q (.pan a S)=Q (.out (.pan a) f S):=rfl
theorem De {x y:Prop}:eI (some (.v (.bool true))) x y=x:=rfl
theorem C8 {x y:Prop}:eI (some (.v (.bool false))) x y=y:=rfl
theorem Ei {g:Fr}:fixQ ops g Q (.out .normal f S)=Q (.out .normal f S):=rfl
theorem F7 {g:Fr} {a:AV}:fixQ ops g Q (.out (.pan a) f S)=Q (.out (.pan a) ⟨I3 ops.toList g.tmps,g.dfr⟩ S):=rfl
theorem Fv (l:List (Nat × Bool)) (h2:Vx ops (bm ops.toList []) (Rb ops (bm ops.toList []) ops.size (List.range ops.size) 0)=true)
  (h3:Rg ops (bm ops.toList []) (Rb ops (bm ops.toList []) ops.size (List.range ops.size) 0) []=some (F4 ops l)) (h:WR E n ops (F4 ops l) f S (fixQ ops f Q)):WD E n ops f S Q:=WD_steps h3 h2 h
theorem WD_byFl (l:List (Nat × Bool)) {x:FlP} (h1:Ss E.P ops=some x) (h2:Vo ops x=some (F4 ops l)) (h3:x.d < n) (h:WR E n ops (F4 ops l) ⟨f.tmps.set x.d none,f.dfr⟩ S (fixQ ops f Q)):WD E n ops f S Q:=WD_fl h1 h2 h3 h
theorem Bi {rs:List ResultVar} {Q:R → Prop}:finW E rs Q (.out .ret f S)=B0 E rs f S Q:=rfl
theorem Gm {rs:List ResultVar} {Q:R → Prop}:finW E rs Q (.out .normal f S)=B0 E rs f S Q:=rfl
theorem Cg {rs:List ResultVar} {Q:R → Prop} {a:AV}:finW E rs Q (.out (.pan a) ⟨t,[]⟩ S)=Q (.pan a S):=by show (_ ∧ _)=_; simp
end
end Go.Ax
noncomputable section
namespace Go.Ax
open Go.RowKit
def Gh.below (γ:Gh) (n:Nat):Gh:={ γ with loc:=fun i=>if i < n then γ.loc i else none }
theorem Sg {γ:Gh} {n id:Nat} {x:Nat × Nat} (h:γ.loc id=some x) (hid:id < n):(γ.below n).loc id=some x:=by
 show (if id < n then γ.loc id else none)=some x
 rw [if_pos hid]; exact h
theorem VR.restrict {γ γ':Gh} {w w':World} {n:Nat} (hf:∀ id,n ≤ id → γ.loc id=none) {a:AV} {x':Value} (h':VR γ' w' a x'):∀ {x:Value},VR γ w a x → VR (γ'.below n) w' a x':=by
 have lt:∀ {id y},γ.loc id=some y → id < n:=fun {id y} h=>by
  by_cases hq:id < n
  ·exact hq
  ·rw [hf id (by omega)] at h; cases h
 induction h' with
 | v x h=>intro _ _; exact .v x h
 | nilp=>intro _ _; exact .nilp
 | ptr id off b s h =>
  intro x hx
  cases hx with
  | ptr _ _ b2 s2 h2=>exact .ptr id off b s (Sg h (lt h2))
 | ep cs b o c h h1 hr ih =>
  intro x hx
  cases hx with
  | ep _ b2 o2 c2 k1 k2 k3=>exact .ep cs b o c h h1 (fun k hk=>ih k hk (k3 k hk))
 | nils=>intro _ _; exact .nils
 | sl tok off sz es b o cap c hsz hes h1 h hr ht hf2 hc hb ih =>
  intro x hx
  cases hx with
  | sl _ _ _ _ b2 o2 cap2 c2 k1 k2 k3 k4 k5 k6 k7 k8 k9 =>
   refine .sl tok off sz es b o cap c hsz hes h1 h (fun k hk=>ih k hk (k5 k hk)) (fun h2=>?_) hf2 hc hb
   obtain ⟨s,q1,q2⟩:=ht h2
   obtain ⟨s2,q3,q4⟩:=k6 h2
   exact ⟨s,Sg q1 (lt q3),q2⟩
 | nilm=>intro _ _; exact .nilm
 | map id b s h =>
  intro x hx
  cases hx with
  | map _ b2 s2 h2=>exact .map id b s (Sg h (lt h2))
 | fn f first caps x y hx hy h1 h2 ih1 ih2 =>
  intro z hz
  cases hz with
  | fn _ _ _ x2 y2 k1 k2 k3 k4=>exact .fn f first caps x y hx hy (fun k hk hk'=>ih1 k hk hk' (k3 k hk (by omega))) (fun k hk hk'=>ih2 k hk hk' (k4 k hk (by omega)))
 | iface t a x h ih =>
  intro z hz
  cases hz with
  | iface _ _ x2 h2=>exact .iface t a x (ih h2)
 | agg cs x hx h1 h ih =>
  intro z hz
  cases hz with
  | agg _ x2 k1 k2 k3=>exact .agg cs x hx h1 (fun k hk hk'=>ih k hk hk' (k3 k hk (by omega)))
 | tup vs x hx h ih =>
  intro z hz
  cases hz with
  | tup _ x2 k1 k2=>exact .tup vs x hx (fun k hk hk'=>ih k hk hk' (k2 k hk (by omega)))
 | bs id off n2 sz b s cap h hc hsz hb =>
  intro z hz
  cases hz with
  | bs _ _ _ _ b2 s2 cap2 h2 _ _ _=>exact .bs id off n2 sz b s cap (Sg h (lt h2)) hc hsz hb
def AV.old (n:Nat):AV → Prop
 | .v _=>True
 | _=>False
theorem SR.forget {base:Nat} {w0 w w':World} {γ γ':Gh} {S S':St} (h:SR base w0 γ S w) (h':SR base w0 γ' S' w') (x:Ext γ S w γ' S' w') (hk:∀ id,id < S.next → S'.mem.get id=S.mem.get id):SR base w0 (γ'.below S.next) S w' ∧ Ext γ S w (γ'.below S.next) S w':=by
 have lt:∀ {id y},γ.loc id=some y → id < S.next:=fun {id y} hl=>by
  by_cases hq:id < S.next
  ·exact hq
  ·rw [(h.fresh id (by omega)).1] at hl; cases hl
 have ltm:∀ {id c},S.mem.get id=some c → id < S.next:=fun {id c} hm=>by
  by_cases hq:id < S.next
  ·exact hq
  ·rw [(h.fresh id (by omega)).2] at hm; cases hm
 have hf:∀ id,S.next ≤ id → γ.loc id=none:=fun id hid=>(h.fresh id hid).1
 have ev:Ev γ w (γ'.below S.next) w':=⟨fun id y hl=>Sg (x.ev.loc id y hl) (lt hl),x.ev.im,x.ev.cell,x.ev.blk⟩
 have bl:∀ {id y},(γ'.below S.next).loc id=some y → γ'.loc id=some y ∧ id < S.next:=fun {id y} hl=>by
  have hl:(if id < S.next then γ'.loc id else none)=some y:=hl
  split at hl
  ·exact ⟨hl,by assumption⟩
  ·cases hl
 refine ⟨⟨h'.below,h'.hbase,h'.imc,fun id hid=>⟨?_,(h.fresh id hid).2⟩,h.pos,fun id b s hl=>h'.inb id b s (bl hl).1,fun id c hm=>?_,fun id id' c c' b s s' e1 e2 l1 l2=>?_⟩,
  ⟨ev,Nat.le_refl _,fun id hid=>?_,x.size,fun id c b s hm hl=>?_,fun b hb hn=>x.frame b hb hn⟩⟩
 ·show (if id < S.next then γ'.loc id else none)=none
  rw [if_neg (by omega)]
 ·obtain ⟨b0,s0,m1,m2,m3⟩:=h.live id c hm
  have hm':S'.mem.get id=some c:=by rw [hk id (ltm hm)]; exact hm
  obtain ⟨b,s,l1,l2,l3⟩:=h'.live id c hm'
  refine ⟨b,s,Sg l1 (ltm hm),l2,?_⟩
  cases c with
  | box cs =>
   obtain ⟨h0,h1,h2,arr,T,xx,yy,ha,hx,hr⟩:=l3
   obtain ⟨_,_,_,arr0,T0,x0,y0,ha0,hx0,hr0⟩:=m3
   exact ⟨h0,h1,h2,arr,T,xx,yy,ha,hx,hr.1,fun k hk1 hk2=>(hr.2 k hk1 hk2).restrict hf (hr0.2 k hk1 (by rw [hr0.1]; exact hk1))⟩
  | tip m=>exact l3
  | mp es =>
   obtain ⟨h0,ms,clock,ha,hl,hv⟩:=l3
   obtain ⟨_,ms0,clock0,ha0,hl0,hv0⟩:=m3
   exact ⟨h0,ms,clock,ha,hl,fun k hk1 hk2=>⟨(hv k hk1 hk2).1,(hv k hk1 hk2).2.restrict hf (hv0 k hk1 (by omega)).2⟩⟩
 ·have m1:=ltm e1; have m2:=ltm e2
  exact h'.inj id id' c c' b s s' (by rw [hk id m1]; exact e1) (by rw [hk id' m2]; exact e2) (bl l1).1 (bl l2).1
 ·show (if id < S.next then γ'.loc id else none)=γ.loc id
  rw [if_pos hid]; exact x.same id hid
 ·exact x.liv id c b s (by rw [hk id (ltm hm)]; exact hm) (bl hl).1
theorem Aa.{u} {α:Sort u} {x:Decidable True} (t e:α):(if True then t else e)=t:=if_true t e
theorem Ab.{u} {α:Sort u} {x:Decidable False} (t e:α):(if False then t else e)=e:=if_false t e
theorem Ac (p:Prop):(True ∧ p)=p:=true_and p
theorem Ad (p:Prop):(p ∧ True)=p:=and_true p
theorem Ae.{u} {α:Type u} {a b:α}:(some a).getD b=a:=Option.getD_some
theorem Af.{u} {α:Type u} {xs:List α} {i:Nat}:xs.toArray[i]? = xs[i]?:=List.getElem?_toArray
theorem Ag.{u} {α:Type u} {a:α} {i:Nat} {l:List α}:(a :: l)[i + 1]? = l[i]?:=List.getElem?_cons_succ
theorem Ah.{u} {α:Type u} {a:α} {l:List α}:(a :: l)[0]? = some a:=List.getElem?_cons_zero
theorem Ai.{u,v} {α:Type u} {β:Type v} (a:α) (f:α → Option β):(some a).bind f=f a:=Option.bind_some a f
theorem Aj.{u} {α:Type u} (l:List α):[] ++ l=l:=List.nil_append l
theorem Ak.{u} {α:Type u} (l:List α):l ++ []=l:=List.append_nil l
theorem Al.{u} {α:Type u} [BEq α] [ReflBEq α] (a:α):(a == a)=true:=beq_self_eq_true a
theorem Am:(false=true)=False:=Bool.false_eq_true
theorem Ao:(true=false)=False:=Bool.true_eq_false
theorem Ap (h:Decidable True):@decide True h=true:=decide_true h
theorem Aq (h:Decidable False):@decide False h=false:=decide_false h
theorem Ar:(!true)=false:=Bool.not_true
theorem Au:(!false)=true:=Bool.not_false
theorem Av (b:Bool):(false == b)=!b:=Bool.false_beq b
theorem Aw (b:Bool):(true == b)=b:=Bool.true_beq b
theorem Ay.{u} {α:Type u} {a:α} {l:List α}:(a :: l).head? = some a:=List.head?_cons
theorem Az.{u} {α:Type u}:([]:List α).head? = none:=List.head?_nil
theorem A0 {α:Type} (t:T α) (n m:Nat) (x:Option α):(t.set n x).get m=if m=n then x else t.get m:=T.get_set t n m x
theorem A1 {α:Type} (n:Nat):(T.leaf:T α).get n=none:=T.get_leaf n
end Go.Ax
noncomputable section
namespace Go.Ax
open Go.RowKit Go.Proofs
def W4 (sz:Nat) (args:List AV) (S:St):R:=match args with
 | [.nils,.v (.int .i64 n)]=>if n=0 then .ret .nils S else if 0 < n ∧ n ≤ 3000 ∧ 0 < sz then .ret (.sl S.next 0 sz []) ⟨S.next + 1,S.mem.set S.next (some (.tip 0))⟩ else .fail
 | _=>.fail
theorem growI_ok {P:Program} {k:FuncId} {sz e:Nat} (h0:∀ w,Calls P k #[.slice none 0 0,.int .i64 0] w fun x w'=>x=.returned (.slice none 0 0) ∧ w' = w)
  (h1:∀ (n:Nat) (w:World),0 < n → n ≤ 3000 → Calls P k #[.slice none 0 0,.int .i64 n] w fun x w'=>∃ c,x=.returned (.slice (some ⟨w.heap.size,0,none⟩) 0 c) ∧ w'.ownsRow w.heap.size e sz (.slice (some ⟨w.heap.size,0,none⟩) 0 c) 0 [] ∧ Below w.heap.size w w')
  (base:Nat) (w0:World) (args:List AV) (S:St) (hne:W4 sz args S ≠ .fail) (γ:Gh) (w:World) (vs:List Value) (hS:SR base w0 γ S w) (hv:VRL γ w args vs):Calls P k vs.toArray w (O7 base w0 γ S w (W4 sz args S)):=by
 generalize hr:W4 sz args S=r at hne ⊢
 unfold W4 at hr
 split at hr
 ·rename_i n
  obtain ⟨x,y,rfl,hx,hy⟩:=hv.two
  cases hx; cases hy
  split at hr
  ·rename_i hn
   subst hn; subst hr
   refine (h0 w).mono fun x w' ⟨hx,hw⟩=>?_
   subst hx; subst hw
   exact ⟨γ,_,hS,.refl _ _ _,.nils,rfl⟩
  ·split at hr
   ·rename_i hn
    obtain ⟨n1,n2,n3⟩:=hn
    subst hr
    have:=h1 n.toNat w (by omega) (by omega)
    rw [show ((n.toNat:Nat):Int)=n by omega] at this
    refine this.mono fun x w' ⟨c,hx,hown,hb⟩=>?_
    subst hx
    obtain ⟨k1,k2⟩:=hS.after hb
    rcases hown.2 with ⟨hnil,_⟩ | ⟨g,cap,cur,hg,hlo,hcur,hc1,hc2,hc3,hc4⟩
    ·cases hnil
    ·injection hg with hg1 hg2 hg3
     injection hg1 with hg1
     injection hg1 with hg1
     subst hg3; subst hg1
     have hlt:w.heap.size < w'.heap.size:=(Array.getElem?_eq_some_iff.1 hcur).1
     have hf:=k1.fresh S.next (Nat.le_refl _)
     have hnew:∀ id c s',S.mem.get id=some c → γ.loc id ≠ some (w.heap.size,s'):=fun id c s' hm hl=>by
      have:=hS.inb id _ _ hl; omega
     obtain ⟨j1,j2⟩:=k1.name w.heap.size 0 (.tip 0) hS.hbase hlt ⟨cur,e,hcur,fun o ho=>by have:=aO hS ho; omega,Nat.zero_le _⟩ hnew
     have hx2:=k2.newName (s:=0) (c:=.tip 0) hf.1 hf.2 rfl
     refine ⟨γ.withLoc S.next w.heap.size 0,_,j1,hx2,?_,rfl⟩
     refine .sl S.next 0 sz [] w.heap.size 0 c (fun _=>undef) n3 (fun _ h=>absurd h List.not_mem_nil) (fun _ h=>absurd h List.not_mem_nil) (fun k h=>absurd h (Nat.not_lt_zero k)) (fun k h=>absurd h (Nat.not_lt_zero k)) (fun _=>⟨0,?_,rfl⟩) (fun h=>?_) (Nat.zero_le _) ⟨cur,e,(0,0),hcur,by omega⟩
     ·show (if S.next=S.next then _ else _)=_; rw [if_pos rfl]
     ·have:=hS.pos; omega
   ·exact absurd hr.symm hne
 ·exact absurd hr.symm hne
theorem infoDecl:(Tryz.prog.info? 54).map (fun i=>(i.zero,i.size,i.bytes))=some (some (.agg #[.string ⟨#[]⟩,.int .i64 0,.bool false,.bool false,.string ⟨#[]⟩,.bool false]),6,56):=by kernel_rfl
theorem nC:Tryz.prog.underlying 46=some (.slice 54):=by kernel_rfl
theorem Hb {P:Program} {t:TypeId} {z:Option Value} {s b:Nat} (h:(P.info? t).map (fun i=>(i.zero,i.size,i.bytes))=some (z,s,b)):∃ i,P.info? t=some i ∧ i.zero=z ∧ i.size=s ∧ i.bytes=b:=by
 cases hi:P.info? t with
 | none=>rw [hi] at h; cases h
 | some i =>
  rw [hi] at h
  simp only [Option.map_some,Option.some.injEq,Prod.mk.injEq] at h
  exact ⟨i,rfl,h.1,h.2.1,h.2.2⟩
set_option maxRecDepth 100000 in
theorem grow_none (w:World):Calls Tryz.prog 94 #[.slice none 0 0,.int .i64 0] w fun e w'=>e=.returned (.slice none 0 0) ∧ w' = w:=by
 go_enter Tryz.func94,Tryz.ntmps94
 go_wp2_with fail
 go_ret
 exact ⟨rfl,rfl⟩
set_option maxRecDepth 100000 in
theorem grow_some (n:Nat) (w:World) (h0:0 < n) (hn:n ≤ 3000) :
  Calls Tryz.prog 94 #[.slice none 0 0,.int .i64 n] w fun e w'=>∃ c,e=.returned (.slice (some ⟨w.heap.size,0,none⟩) 0 c) ∧ w'.ownsRow w.heap.size 54 6 (.slice (some ⟨w.heap.size,0,none⟩) 0 c) 0 [] ∧ Below w.heap.size w w':=by
 obtain ⟨i0,hi,hz0,hz1,hz2⟩:=Hb infoDecl
 have hrz:∀ ty,(Builtin.append_ #[46,3] ty #[.slice none 0 0,.int .i64 ((n:Nat):Int)]).run Tryz.prog w =
   .ok (.slice (some ⟨w.heap.size,0,none⟩) n (grownCap w n 0 54)) (w.drew.alloc (.cells (#[] ++ Builtin.zeroCells (Value.cells (.agg #[.string ⟨#[]⟩,.int .i64 0,.bool false,.bool false,.string ⟨#[]⟩,.bool false])) n ++ Builtin.zeroCells (Value.cells (.agg #[.string ⟨#[]⟩,.int .i64 0,.bool false,.bool false,.string ⟨#[]⟩,.bool false])) (grownCap w n 0 54 - n)) 54)):=fun ty=>by
  have h:=Lib.run_append_grow_zeros w 46 3 ty 54 i0 _ .i64 .i64 nC Tryz.underlying3 hi hz0 none 0 0 [] (by rw [hz1]; exact run_firstCells_none w.drew 6 0 0 0) n h0 (by omega) (by omega) (by omega) (by rw [hz2]; omega)
   (growslice_fits (by omega) (by rw [hz2]; omega))
  simpa using h
 have hG1:=Q4 w n 0 54
 have hG2:=grownCap_le_maxLen w n 0 54 (by unfold maxLen; omega)
 obtain ⟨G,hG⟩:∃ G,G=grownCap w n 0 54:=⟨_,rfl⟩
 rw [← hG] at hrz hG1 hG2
 clear hG
 have h4:((n:Int) > 0):=by omega
 unfold maxLen at hG2
 go_enter Tryz.func94,Tryz.ntmps94
 go_wp2_with (at_builtin; refine Lib.wpList_append_run _ rfl _ _ _ _ rfl _ _ rfl rfl _ _ (hrz _) ?_)
 all_goals
  go_ret
  refine ⟨G,rfl,World.ownsRow_made w.drew _ G (Nat.le_refl _) (by unfold maxLen; omega) ?_,((Below.refl _ _).drew).alloc (Nat.le_refl _) _⟩
  simp only [Array.size_append,size_zeroCells]
  simp [Value.cells]
  omega
theorem grow_I (base:Nat) (w0:World) (args:List AV) (S:St) (hne:W4 6 args S ≠ .fail) (γ:Gh) (w:World) (vs:List Value) (hS:SR base w0 γ S w) (hv:VRL γ w args vs):Calls Tryz.prog 94 vs.toArray w (O7 base w0 γ S w (W4 6 args S)) :=
 growI_ok grow_none (fun n w h0 h1=>grow_some n w h0 h1) base w0 args S hne γ w vs hS hv
end Go.Ax
noncomputable section
namespace Go.Ax
open Go.RowKit Go.Proofs
set_option maxRecDepth 100000
def J6:Nat → List UInt8 → Nat
 | a,[]=>a
 | a,c :: r=>J6 (a * 10 + (c.toNat - 48)) r
def Zn (b:UInt8):Bool:=48 ≤ b.toNat && b.toNat ≤ 57
def puI (args:List AV):Option AV:=match args with
 | [.v (.string s),.v (.int .i64 10),.v (.int .i64 64)]=>if s.data.toList ≠ [] ∧ s.data.toList.all Zn=true ∧ J6 0 s.data.toList < 18446744073709551616 ∧ s.size ≤ 9223372036854775806 then some (.tup [.v (.int .u64 (J6 0 s.data.toList)),.v .nilIface])
  else if s.data.toList ≠ [] ∧ s.data.toList.all Zn=true ∧ 18446744073709551616 ≤ J6 0 s.data.toList ∧ s.size ≤ 281474976710656 then some (.tup [.v (.int .u64 18446744073709551615),.iface 251 (.ep [])]) else none
 | _=>none
def gR:Gl:=fun g=>Bool.rec none (some [.iface 278 (.ep [])]) (Nat.beq g 5)
def yW (t:Nat):Nat:=Bool.rec (Bool.rec (Bool.rec (Bool.rec 0 2 (Nat.beq t 138)) 2 (Nat.beq t 136)) 1 (Nat.beq t 47)) 1 (Nat.beq t 28)
def E1:Env:={ P:=Tryz.prog,G:=gR,F:=fun k=>match Tryz.prog.funcs[k]? with | some fn=>if fn.body.isSome then some fn else none | none=>none,I:=fun k=>Bool.rec (Bool.rec none (some (W4 6)) (Nat.beq k 94)) (some (He puI)) (Nat.beq k 133),M:=yW }
theorem e1_names:(Tryz.prog.funcs.toList.all fun fn=>!(fn.name == "runtime.NumGoroutine"))=true:=by kernel_rfl
theorem Rv:E1.Ok:=⟨fun k fn h=>by
 simp only [E1] at h
 split at h
 ·rename_i fn' hf
  split at h
  ·rename_i hb
   injection h with h; subst h
   have hm:fn' ∈ Tryz.prog.funcs.toList:=by
    have:=Array.mem_of_getElem? hf
    simpa using this
   have:=List.all_eq_true.1 e1_names fn' hm
   exact ⟨hf,by simpa using this,Option.isSome_iff_exists.1 hb⟩
  ·cases h
 ·cases h⟩
theorem numV_ge:∀ (l:List UInt8) (a:Nat),a ≤ J6 a l
 | [],a=>Nat.le_refl _
 | c :: r,a=>by
  have:=numV_ge r (a * 10 + (c.toNat - 48))
  show a ≤ J6 (a * 10 + (c.toNat - 48)) r
  omega
theorem vE:∀ (l:List UInt8) (a:Nat),l.all Zn=true → J6 a l < 18446744073709551616 → Lib.parseUintM (2 ^ 64 - 1) a l=.ok (J6 a l)
 | [],a,_,_=>rfl
 | c :: r,a,hd,h=>by
  rw [List.all_cons,Bool.and_eq_true] at hd
  have hc:48 ≤ c.toNat ∧ c.toNat ≤ 57:=by have:=hd.1; unfold Zn at this; simpa using this
  have h1:a * 10 + (c.toNat - 48) ≤ J6 (a * 10 + (c.toNat - 48)) r:=numV_ge r _
  have h2:J6 a (c :: r)=J6 (a * 10 + (c.toNat - 48)) r:=rfl
  rw [h2] at h ⊢
  unfold Lib.parseUintM
  rw [if_pos hc,if_neg (by omega),if_neg (by omega)]
  exact vE r _ hd.2 h
theorem parse_ok {l:List UInt8} (hn:l ≠ []) (hd:l.all Zn=true) (h:J6 0 l < 18446744073709551616):Lib.parseUintB 64 l=.ok (J6 0 l):=by
 unfold Lib.parseUintB; rw [if_neg hn]; exact vE l 0 hd h
theorem cI:∀ (l:List UInt8) (a:Nat),l.all Zn=true → a < 18446744073709551616 → 18446744073709551616 ≤ J6 a l → Lib.parseUintM (2 ^ 64 - 1) a l=.range
 | [],a,_,h1,h2=>absurd h1 (Nat.not_lt.2 h2)
 | c :: r,a,hd,h1,h=>by
  rw [List.all_cons,Bool.and_eq_true] at hd
  have hc:48 ≤ c.toNat ∧ c.toNat ≤ 57:=by have:=hd.1; unfold Zn at this; simpa using this
  have h2:J6 a (c :: r)=J6 (a * 10 + (c.toNat - 48)) r:=rfl
  rw [h2] at h
  unfold Lib.parseUintM
  rw [if_pos hc]
  by_cases h3:1844674407370955162 ≤ a
  ·rw [if_pos h3]
  ·rw [if_neg h3]
   by_cases h4:2 ^ 64 - 1 < a * 10 + (c.toNat - 48)
   ·rw [if_pos h4]
   ·rw [if_neg h4]
    exact cI r _ hd.2 (by omega) h
theorem parse_range {l:List UInt8} (hn:l ≠ []) (hd:l.all Zn=true) (h:18446744073709551616 ≤ J6 0 l):Lib.parseUintB 64 l=.range:=by
 unfold Lib.parseUintB; rw [if_neg hn]; exact cI l 0 hd (by decide) h
theorem VRL.three {γ:Gh} {w:World} {a b c:AV} {vs:List Value} (h:VRL γ w [a,b,c] vs):∃ x y z,vs=[x,y,z] ∧ VR γ w a x ∧ VR γ w b y ∧ VR γ w c z:=by
 obtain ⟨h1,h2⟩:=h
 match vs,h1 with
 | [x,y,z],_=>exact ⟨x,y,z,rfl,h2 0 (by simp) (by simp),h2 1 (by simp) (by simp),h2 2 (by simp) (by simp)⟩
theorem gR_cell {γ:Gh} {w:World} (h:GR γ w gR):∃ p,w.cell? ⟨5,0,none⟩=some (.iface 278 p):=by
 have:=(h 5 _ rfl).1
 cases this with
 | ep cs b o c h h1 hr =>
  have h2:=(h 0 (by simp)).2
  have h3:=hr 0 (by simp)
  simp only [List.getElem_cons_zero,Nat.add_zero] at h2 h3
  generalize c 0=z at h2 h3
  cases h3 with
  | iface t a x h4=>exact ⟨x,h2⟩
theorem puI_ok:∀ args a,puI args=some a → ∀ γ w (vs:List Value),GR γ w gR → VRL γ w args vs → Calls Tryz.prog 133 vs.toArray w fun e w'=>Below w.heap.size w w' ∧ ∃ v,e=.returned v ∧ ∀ γ w,VR γ w a v:=by
 intro args a h γ w vs hg hv
 unfold puI at h
 split at h
 ·rename_i s
  obtain ⟨x,y,z,rfl,hx,hy,hz⟩:=hv.three
  cases hx; cases hy; cases hz
  split at h
  ·rename_i hc
   obtain ⟨h0,h1,h2,h3⟩:=hc
   injection h with h; subst h
   refine (Tryz.strconv_ParseUint_10_at64_ok s h3 _ (parse_ok h0 h1 h2) w).mono fun e w' he=>⟨?_,_,he.1,fun γ w=>?_⟩
   ·rcases he.2 with rfl | rfl
    ·exact .refl _ _
    ·exact Lib.bytesWorld_below _ _ _
   ·exact .tup _ _ rfl (fun k hk hk'=>by
     match k,hk with
     | 0,_=>exact .v _ rfl
     | 1,_=>exact .v _ rfl)
  ·split at h
   ·rename_i hc
    obtain ⟨h0,h1,h2,h3⟩:=hc
    injection h with h; subst h
    obtain ⟨p,hp⟩:=gR_cell hg
    refine (Tryz.strconv_ParseUint_10_at64_range s h3 (parse_range h0 h1 h2) _ w hp (.inr ⟨_,_,rfl⟩)).mono fun e w' he=>?_
    obtain ⟨N,he1,he2,he3,he4⟩:=he
    refine ⟨he4,_,he1,fun γ w=>?_⟩
    exact .tup _ _ rfl (fun k hk hk'=>by
     match k,hk with
     | 0,_=>exact .v _ rfl
     | 1,_=>exact .iface _ _ _ (.ep [] N 0 (fun _=>undef) (fun k h=>absurd h (Nat.not_lt_zero k)) (fun _ h=>absurd h List.not_mem_nil) (fun k h=>absurd h (Nat.not_lt_zero k))))
   ·cases h
 ·cases h
theorem dZ:Kw E1:=fun k g hk base w0 args S hne γ w vs hS hg hv=>by
 have hk2:(Bool.rec (Bool.rec none (some (W4 6)) (Nat.beq k 94)) (some (He puI)) (Nat.beq k 133):Option (List AV → St → R))=some g:=hk
 cases hb:Nat.beq k 133 with
 | false =>
  rw [hb] at hk2
  cases hc:Nat.beq k 94 with
  | false=>rw [hc] at hk2; cases hk2
  | true =>
   rw [hc] at hk2
   injection hk2 with hk2; subst hk2
   have:k=94:=Nat.eq_of_beq_eq_true hc
   subst this
   exact grow_I base w0 args S hne γ w vs hS hv
 | true =>
  rw [hb] at hk2
  injection hk2 with hk2; subst hk2
  have:k=133:=Nat.eq_of_beq_eq_true hb
  subst this
  cases hga:puI args with
  | none=>exact absurd (by simp [He,hga]) hne
  | some a =>
   refine (puI_ok args a hga γ w vs hg hv).mono fun e w' h=>?_
   obtain ⟨hb,v,rfl,hvr⟩:=h
   obtain ⟨h1,h2⟩:=hS.after hb
   show O7 base w0 γ S w (He puI args S) (.returned v) w'
   simp only [He,hga]
   exact ⟨γ,v,h1,h2,hvr _ _,rfl⟩
theorem Rn:E1.P.follows .mixedOrders=true:=by kernel_rfl
theorem Cp:E1.P=Tryz.prog:=rfl
theorem Fj:E1.G=gR:=rfl
theorem Bs (a b:AV):H9 Tryz.prog 3 a b=false:=by unfold H9; rw [Tryz.underlying3]
theorem u5:∃ d,Tryz.prog.underlying 5=some d ∧ ∀ e,d ≠ .slice e:=⟨_,rfl,fun _ h=>by cases h⟩
theorem Nv (a b:AV):H9 Tryz.prog 5 a b=false:=by
 have h:Tryz.prog.underlying 5=some (.int .u8):=rfl
 unfold H9; rw [h]
theorem Cu (k:IntKind) (x y:Int):Ej .lss (.v (.int k x)) (.v (.int k y))=some (.v (.bool (decide (x < y)))):=by simp [Ej]
theorem Ew (k:IntKind) (x y:Int):Ej .leq (.v (.int k x)) (.v (.int k y))=some (.v (.bool (decide (x ≤ y)))):=by simp [Ej]
theorem D8 (k:IntKind) (x y:Int):Ej .gtr (.v (.int k x)) (.v (.int k y))=some (.v (.bool (decide (x > y)))):=by simp [Ej]
theorem E3 (k:IntKind) (x y:Int):Ej .geq (.v (.int k x)) (.v (.int k y))=some (.v (.bool (decide (x ≥ y)))):=by simp [Ej]
theorem Dg (k:IntKind) (x y:Int):Ej .add (.v (.int k x)) (.v (.int k y))=some (.v (.int k (k.wrap (x + y)))):=by simp [Ej]
theorem Di (k:IntKind) (x y:Int):Ej .neq (.v (.int k x)) (.v (.int k y))=some (.v (.bool (x != y))):=by simp [Ej]
theorem B9 (k:IntKind) (x y:Int):Ej .eql (.v (.int k x)) (.v (.int k y))=some (.v (.bool (x == y))):=by simp [Ej]
def G0 (b:UInt8):Bool:=(65 ≤ b.toNat && b.toNat ≤ 90) || (97 ≤ b.toNat && b.toNat ≤ 122) || b.toNat == 95
def Eh (b:UInt8):Bool:=48 ≤ b.toNat && b.toNat ≤ 57
def E4 (b:UInt8):Bool:=b.toNat == 32 || b.toNat == 9 || b.toNat == 10
def Oh (b:UInt8):Bool:=!(b.toNat == 10)
def Es (b:UInt8):Bool:=G0 b || Eh b
theorem digit_w (b:UInt8) (S:St):WC E1 101 [N7 b] S (fun r=>r=.ret (.v (.bool (Eh b))) S):=by
 refine Dv Tryz.f101 (by kernel_rfl) (by kernel_rfl) (by kernel_rfl) (by show (_:Nat) ≤ _;simp [Tryz.f101]) ?_
 unfold N7
 by_cases h1:(48:Int) ≤ (b.toNat:Int)
 ·by_cases h2:(b.toNat:Int) ≤ 57
  ·have e:Eh b=true:=by unfold Eh; simp; omega
   simp only [A6,Bk,B1,Bj,Ch,A7,Bf,Bd,A5,Bc,Ba,Ce,A0,A1,ofOpt,Bb,Cp,Bi,B0,Bg,Cs,Ew,Nat.reduceLT,Nat.reduceEqDiff,Aa,Ab,Ad,Ae,Af,Ag,Ah,Ai,Al,Am,Ap,Tryz.f101,Nv,h1,h2,e]
  ·have e:Eh b=false:=by unfold Eh; simp; omega
   simp only [A6,Bk,B1,Bj,Ch,A7,Bf,Bd,A5,Bc,Ba,Ce,A0,A1,ofOpt,Bb,Cp,Bi,B0,Bg,Cs,Ew,Nat.reduceLT,Nat.reduceEqDiff,Aa,Ab,Ad,Ae,Af,Ag,Ah,Ai,Al,Am,Ap,Aq,Tryz.f101,Nv,h1,h2,e]
 ·have e:Eh b=false:=by unfold Eh; simp; omega
  simp only [A6,Bk,B1,Bj,Ch,A7,C0,Bf,Bd,A5,Bc,Ba,Ce,A0,A1,ofOpt,Bb,Cp,Fj,Bi,B0,Bg,Cs,Ew,Nat.reduceLT,Nat.reduceEqDiff,Aa,Ab,Ad,Ae,Af,Ag,Ah,Ai,Am,Aq,Ar,Av,Tryz.f101,Nv,h1,e]
theorem blank_w (b:UInt8) (S:St):WC E1 97 [N7 b] S (fun r=>r=.ret (.v (.bool (E4 b))) S):=by
 refine Dv Tryz.f97 (by kernel_rfl) (by kernel_rfl) (by kernel_rfl) (by show (_:Nat) ≤ _;simp [Tryz.f97]) ?_
 unfold N7
 have n1:(((b.toNat:Int) == 32)=(b.toNat == 32)):=by rw [Bool.eq_iff_iff]; simp; omega
 have n2:(((b.toNat:Int) == 9)=(b.toNat == 9)):=by rw [Bool.eq_iff_iff]; simp; omega
 have n3:(((b.toNat:Int) == 10)=(b.toNat == 10)):=by rw [Bool.eq_iff_iff]; simp; omega
 cases h1:(b.toNat == 32)
 ·cases h2:(b.toNat == 9)
  ·have e:E4 b=(b.toNat == 10):=by unfold E4; rw [h1,h2]; rfl
   simp only [A6,Bk,B1,Bj,Ch,A7,Bf,Bd,A5,Bc,Ba,Ce,A0,A1,ofOpt,Bb,Cp,Bi,B0,Bg,Cs,B9,Nat.reduceLT,Nat.reduceEqDiff,Aa,Ab,Ad,Ae,Af,Ag,Ah,Ai,Al,Am,Tryz.f97,Nv,n1,n2,n3,h1,h2,e]
  ·have e:E4 b=true:=by unfold E4; rw [h1,h2]; rfl
   simp only [A6,Bk,B1,Bj,Ch,A7,C0,Bf,Bd,A5,Bc,Ba,Ce,A0,A1,ofOpt,Bb,Cp,Fj,Bi,B0,Bg,Cs,B9,Nat.reduceLT,Nat.reduceEqDiff,Aa,Ab,Ad,Ae,Af,Ag,Ah,Ai,Al,Am,Aw,Tryz.f97,Nv,n1,n2,h1,h2,e]
 ·have e:E4 b=true:=by unfold E4; rw [h1]; rfl
  simp only [A6,Bk,B1,Bj,Ch,A7,C0,Bf,Bd,A5,Bc,Ba,Ce,A0,A1,ofOpt,Bb,Cp,Fj,Bi,B0,Bg,Cs,B9,Nat.reduceLT,Nat.reduceEqDiff,Aa,Ab,Ad,Ae,Af,Ag,Ah,Ai,Am,Aw,Tryz.f97,Nv,n1,h1,e]
theorem notEnd_w (b:UInt8) (S:St):WC E1 98 [N7 b] S (fun r=>r=.ret (.v (.bool (Oh b))) S):=by
 refine Dv Tryz.f98 (by kernel_rfl) (by kernel_rfl) (by kernel_rfl) (by show (_:Nat) ≤ _;simp [Tryz.f98]) ?_
 unfold N7
 have n3:(((b.toNat:Int) != 10)=Oh b):=by unfold Oh; rw [Bool.eq_iff_iff]; simp; omega
 simp only [A6,Bk,B1,Bj,Ch,A7,Bf,Bd,A5,Bc,Ba,Ce,A0,A1,ofOpt,Bb,Cp,Bi,B0,Bg,Cs,Di,Nat.reduceLT,Nat.reduceEqDiff,Aa,Ab,Ad,Ae,Am,Tryz.f98,Nv,n3]
theorem letter_w (b:UInt8) (S:St):WC E1 99 [N7 b] S (fun r=>r=.ret (.v (.bool (G0 b))) S):=by
 refine Dv Tryz.f99 (by kernel_rfl) (by kernel_rfl) (by kernel_rfl) (by show (_:Nat) ≤ _;simp [Tryz.f99]) ?_
 unfold N7
 have n5:(((b.toNat:Int) == 95)=(b.toNat == 95)):=by rw [Bool.eq_iff_iff]; simp; omega
 have key:∀ (p q:Bool),(65 ≤ b.toNat && b.toNat ≤ 90)=p → (97 ≤ b.toNat && b.toNat ≤ 122)=q → G0 b=(p || q || b.toNat == 95):=fun p q h1 h2=>by unfold G0; rw [h1,h2]
 by_cases h1:(65:Int) ≤ (b.toNat:Int)
 ·by_cases h2:(b.toNat:Int) ≤ 90
  ·have e:=key true (97 ≤ b.toNat && b.toNat ≤ 122) (by simp; omega) rfl
   simp only [Bool.true_or] at e
   simp only [A6,Bk,B1,Bj,Ch,A7,C0,Bf,Bd,A5,Bc,Ba,Ce,A0,A1,ofOpt,Bb,Cp,Fj,Bi,B0,Bg,Cs,Ew,Nat.reduceLT,Nat.reduceEqDiff,Aa,Ab,Ad,Ae,Af,Ag,Ah,Ai,Al,Am,Ap,Aw,Tryz.f99,Nv,h1,h2,e]
  ·by_cases h3:(97:Int) ≤ (b.toNat:Int)
   ·by_cases h4:(b.toNat:Int) ≤ 122
    ·have e:=key false true (by simp; omega) (by simp; omega)
     simp only [Bool.or_true,Bool.true_or] at e
     simp only [A6,Bk,B1,Bj,Ch,A7,C0,Bf,Bd,A5,Bc,Ba,Ce,A0,A1,ofOpt,Bb,Cp,Fj,Bi,B0,Bg,Cs,Ew,Nat.reduceLT,Nat.reduceEqDiff,Aa,Ab,Ad,Ae,Af,Ag,Ah,Ai,Al,Am,Ap,Aq,Aw,Tryz.f99,Nv,h1,h2,h3,h4,e]
    ·have e:=key false false (by simp; omega) (by simp; omega)
     simp only [Bool.or_false,Bool.false_or] at e
     simp only [A6,Bk,B1,Bj,Ch,A7,Bf,Bd,A5,Bc,Ba,Ce,A0,A1,ofOpt,Bb,Cp,Bi,B0,Bg,Cs,Ew,B9,Nat.reduceLT,Nat.reduceEqDiff,Aa,Ab,Ad,Ae,Af,Ag,Ah,Ai,Al,Am,Ap,Aq,Tryz.f99,Nv,n5,h1,h2,h3,h4,e]
   ·have e:=key false false (by simp; omega) (by simp; omega)
    simp only [Bool.or_false,Bool.false_or] at e
    simp only [A6,Bk,B1,Bj,Ch,A7,C0,Bf,Bd,A5,Bc,Ba,Ce,A0,A1,ofOpt,Bb,Cp,Fj,Bi,B0,Bg,Cs,Ew,B9,Nat.reduceLT,Nat.reduceEqDiff,Aa,Ab,Ad,Ae,Af,Ag,Ah,Ai,Al,Am,Ap,Aq,Ar,Av,Tryz.f99,Nv,n5,h1,h2,h3,e]
 ·have h3:¬ (97:Int) ≤ (b.toNat:Int):=by omega
  have e:=key false false (by simp; omega) (by simp; omega)
  simp only [Bool.or_false,Bool.false_or] at e
  simp only [A6,Bk,B1,Bj,Ch,A7,C0,Bf,Bd,A5,Bc,Ba,Ce,A0,A1,ofOpt,Bb,Cp,Fj,Bi,B0,Bg,Cs,Ew,B9,Nat.reduceLT,Nat.reduceEqDiff,Aa,Ab,Ad,Ae,Af,Ag,Ah,Ai,Al,Am,Aq,Ar,Av,Tryz.f99,Nv,n5,h1,h3,e]
theorem fnOk99:∃ fn,E1.F 99=some fn:=Option.isSome_iff_exists.1 (by kernel_rfl)
theorem fnOk101:∃ fn,E1.F 101=some fn:=Option.isSome_iff_exists.1 (by kernel_rfl)
theorem wordB_w (b:UInt8) (S:St):WC E1 131 [N7 b] S (fun r=>r=.ret (.v (.bool (Es b))) S):=by
 refine Dv Tryz.f131 (by kernel_rfl) (by kernel_rfl) (by kernel_rfl) (by show (_:Nat) ≤ _;simp [Tryz.f131]) ?_
 obtain ⟨fn1,hf1⟩:=fnOk99
 obtain ⟨fn2,hf2⟩:=fnOk101
 simp only [A6,Bk,Bj,Ch,A7,Bf,Bh,Bd,A5,Bc,Ba,Ce,A0,A1,Bm,B5,ofOpt,Bb,Nat.reduceLT,Nat.reduceEqDiff,Aa,Ab,Ac,Ae,Aj,Ak,Tryz.f131,hf1]
 refine WC.mono (letter_w b S) ?_
 rintro _ rfl
 cases h:G0 b
 ·simp only [A7,Bf,Bh,Bd,Bp,A5,Bc,Ba,A0,A1,Bm,B5,ofOpt,Nat.reduceLT,Nat.reduceEqDiff,Aa,Ab,Ac,Af,Ag,Ah,Ai,Aj,Ak,Al,hf2]
  refine WC.mono (digit_w b S) ?_
  rintro _ rfl
  have e:Es b=Eh b:=by unfold Es; rw [h]; rfl
  simp only [B1,Bj,Ch,A7,Bf,Bd,Bp,A5,Bc,Ba,A0,A1,ofOpt,Bi,B0,Bg,Cs,Nat.reduceLT,Nat.reduceEqDiff,Aa,Ab,Ad,e]
 ·have e:Es b=true:=by unfold Es; rw [h]; rfl
  simp only [B1,Bj,Ch,A7,C0,Bf,Bd,Bp,A5,Bc,Ba,A0,A1,Bm,B5,ofOpt,Bb,Bi,B0,Bg,Cs,Nat.reduceLT,Nat.reduceEqDiff,Aa,Ab,Ad,Af,Ag,Ah,Ai,Aj,Ak,Aw,hf2,e]
end Go.Ax
