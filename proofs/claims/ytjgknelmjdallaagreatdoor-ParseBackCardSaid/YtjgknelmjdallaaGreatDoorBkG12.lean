/- Ha -/
import Derived.Test.YtjgknelmjdallaaGreatDoorBkG11
import Derived.Test.YtjgknelmjdallaaGreatDoorProg
import Derived.ProofKit
import Derived.Laws.Slices
import Derived.IntWalk
import Derived.Lib.AppendZerosOnto
import Derived.Test.YtjgknelmjdallaaGreatDoorAxShelf
import Derived.Lib.AtoiErrMem
import Derived.KernelRfl
import Derived.Lib.ParseIntB
set_option linter.unusedVariables false
set_option linter.unusedSimpArgs false
noncomputable section
namespace Go.Ax
open Go.RowKit
abbrev ckN (E:Env) (m:Nat):E5:=Tv E (C1 E) m
def CT (E:Env) (k:FuncId) (args:List AV) (S:St) (r:R):Prop:=∃ m0,∀ m,m0 ≤ m → ckN E m k args S=r
def RT (E:Env) (n:Nat) (c:Code) (f:Fr) (S:St) (r:O):Prop:=∃ m0,∀ m,m0 ≤ m → run E (C1 E) m n c f S=r
def LT (E:Env) (n:Nat) (ops:Array Oper) (l:List Oper) (f:Fr) (S:St) (r:O):Prop:=∃ m0,∀ m,m0 ≤ m → cB E (ckN E m) n ops l f S=r
def DT (E:Env) (n:Nat) (ops:Array Oper) (l:List RS) (f:Fr) (S:St) (r:O):Prop:=∃ m0,∀ m,m0 ≤ m → Fc E (ckN E m) n ops l f S=r
def WC (E:Env) (k:FuncId) (args:List AV) (S:St) (Q:R → Prop):Prop:=∃ r,CT E k args S r ∧ Q r
def WX (E:Env) (n:Nat) (c:Code) (f:Fr) (S:St) (Q:O → Prop):Prop:=∃ r,RT E n c f S r ∧ Q r
def Z9 (n:Nat) (f:Fr) (dst:Option Tmp) (a:AV) (S:St) (K:Fr → St → Prop):Prop:=match dst with
 | none=>K f S
 | some d=>d < n ∧ K { f with tmps:=f.tmps.set d (some a) } S
def retW (n:Nat) (f:Fr) (dst:Option Tmp) (K:Fr → St → Prop) (Q:O → Prop):R → Prop
 | .ret a S=>Z9 n f dst a S K
 | .pan a S=>Q (.out (.pan a) f S)
 | .fail=>False
def execW (E:Env) (n:Nat) (o:Oper) (f:Fr) (K:Fr → St → Prop) (Q:O → Prop):OR → Prop
 | .val a S'=>Z9 n f o.dst a S' K
 | .skip S'=>Z9 n f o.dst (.tup []) S' K
 | .enter k args S'=>WC E k args S' (retW n f o.dst K Q)
 | .dfr fn caps args S'=>Z9 n { f with dfr:=⟨fn,caps,args⟩ :: f.dfr } o.dst (.tup []) S' K
 | .pan a S'=>Q (.out (.pan a) f S')
 | .fail=>False
def Ze (E:Env) (n:Nat) (ops:Array Oper) (o:Oper) (f:Fr) (S:St) (K:Fr → St → Prop) (Q:O → Prop):Prop:=match A5 ops o f.tmps with
 | none=>False
 | some false=>Z9 n f o.dst (.tup []) S K
 | some true=>execW E n o f K Q (Bc E f.tmps S o)
def WL (E:Env) (n:Nat) (ops:Array Oper):List Oper → Fr → St → (O → Prop) → Prop
 | [],f,S,Q=>Q (.out .normal f S)
 | o :: l,f,S,Q=>Ze E n ops o f S (fun f' S'=>WL E n ops l f' S' Q) Q
def WR (E:Env) (n:Nat) (ops:Array Oper):List RS → Fr → St → (O → Prop) → Prop
 | [],f,S,Q=>Q (.out .normal f S)
 | .op o :: l,f,S,Q=>Ze E n ops o f S (fun f' S'=>WR E n ops l f' S' Q) Q
 | .re o :: l,f,S,Q=>Dy E ops o f.tmps S=true ∧ WR E n ops l f S Q
def WD (E:Env) (n:Nat) (ops:Array Oper) (f:Fr) (S:St) (Q:O → Prop):Prop:=∃ r,(∃ m0,∀ m,m0 ≤ m → C1 E (ckN E m) n ops f S=r) ∧ Q r
def Uy (K:Fr → St → Prop) (Q:O → Prop):O → Prop
 | .out .normal f S=>K f S
 | r=>Q r
def Ow (id:Nat) (Q:O → Prop):O → Prop
 | .out (.exit id') f S=>if id' = id then Q (.out .normal f S) else Q (.out (.exit id') f S)
 | r=>Q r
def Xj (c:Option AV) (x y:Prop):Prop:=match c with
 | some (.v (.bool true))=>x
 | some (.v (.bool false))=>y
 | _=>False
def W (E:Env) (n:Nat) (c:Code) (f:Fr) (S:St) (Q:O → Prop):Prop:=match c with
 | .skip=>Q (.out .normal f S)
 | .label _=>Q (.out .normal f S)
 | .region _ ops false=>WL E n ops ops.toList f S Q
 | .region _ ops true=>WD E n ops f S Q
 | .seq a b=>W E n a f S (Uy (fun f' S'=>W E n b f' S' Q) Q)
 | .cond c x y=>Xj (Ba E.G f.tmps c) (W E n x f S Q) (W E n y f S Q)
 | .block id c=>W E n c f S (Ow id Q)
 | .loop c=>WX E n (.loop c) f S Q
 | .exit id=>Q (.out (.exit id) f S)
 | .ret=>Q (.out .ret f S)
 | _=>False
theorem pF (E:Env) (m n:Nat) (c:Code) (f:Fr) (S:St):run E (C1 E) (m + 1) n c f S=Fh E (C1 E) (run E (C1 E) m) (ckN E m) n c f S:=rfl
theorem Ya {n:Nat} {f:Fr} {dst:Option Tmp} {a:AV} {S:St} {K:Fr → St → Prop} (h:Z9 n f dst a S K):∃ f',Mi n f dst a S=.out .normal f' S ∧ K f' S:=by
 unfold Z9 at h; unfold Mi
 cases dst with
 | none=>exact ⟨f,rfl,h⟩
 | some d=>exact ⟨_,by simp only [if_pos h.1],h.2⟩
theorem bJ {E:Env} {n:Nat} {ops:Array Oper} {o:Oper} {f:Fr} {S:St} {K:Fr → St → Prop} {Q:O → Prop} (h:Ze E n ops o f S K Q) :
  ∃ m0,(∃ f' S',K f' S' ∧ ∀ m,m0 ≤ m → Fu E (ckN E m) n ops o f S=.out .normal f' S') ∨ (∃ a f' S',Q (.out (.pan a) f' S') ∧ ∀ m,m0 ≤ m → Fu E (ckN E m) n ops o f S=.out (.pan a) f' S'):=by
 unfold Ze at h
 have hput:∀ {dst a S'},Z9 n f dst a S' K → (∀ m,Fu E (ckN E m) n ops o f S=Mi n f dst a S') → ∃ m0,(∃ f' S',K f' S' ∧ ∀ m,m0 ≤ m → Fu E (ckN E m) n ops o f S=.out .normal f' S') ∨ (∃ a f' S',Q (.out (.pan a) f' S') ∧ ∀ m,m0 ≤ m → Fu E (ckN E m) n ops o f S=.out (.pan a) f' S'):=fun hp he=>by
  obtain ⟨f',e,hk⟩:=Ya hp
  exact ⟨0,.inl ⟨f',_,hk,fun m _=>(he m).trans e⟩⟩
 cases hw:A5 ops o f.tmps with
 | none=>rw [hw] at h; exact h.elim
 | some b =>
  rw [hw] at h
  cases b with
  | false=>exact hput h (fun m=>by unfold Fu; rw [hw])
  | true =>
   unfold execW at h
   simp only at h
   cases hx:Bc E f.tmps S o with
   | val a S'=>rw [hx] at h; exact hput h (fun m=>by unfold Fu; rw [hw]; simp only [hx])
   | skip S'=>rw [hx] at h; exact hput h (fun m=>by unfold Fu; rw [hw]; simp only [hx])
   | enter k args S' =>
    rw [hx] at h
    obtain ⟨r,⟨m0,hm⟩,hq⟩:=h
    unfold retW at hq
    cases r with
    | ret a S2 =>
     obtain ⟨f',e,hk⟩:=Ya hq
     exact ⟨m0,.inl ⟨f',_,hk,fun m h=>by unfold Fu; rw [hw]; simp only [hx,hm m h,e]⟩⟩
    | pan a S2=>exact ⟨m0,.inr ⟨a,_,_,hq,fun m h=>by unfold Fu; rw [hw]; simp only [hx,hm m h]⟩⟩
    | fail=>exact hq.elim
   | dfr fn caps args S' =>
    rw [hx] at h
    obtain ⟨f',e,hk⟩:=Ya h
    exact ⟨0,.inl ⟨f',_,hk,fun m _=>by unfold Fu; rw [hw]; simp only [hx,e]⟩⟩
   | pan a S'=>rw [hx] at h; exact ⟨0,.inr ⟨a,_,_,h,fun m _=>by unfold Fu; rw [hw]; simp only [hx]⟩⟩
   | fail=>rw [hx] at h; exact h.elim
theorem sZ {E:Env} {n:Nat} {ops:Array Oper}:∀ {l:List Oper} {f:Fr} {S:St} {Q:O → Prop},WL E n ops l f S Q → ∃ r,LT E n ops l f S r ∧ Q r
 | [],f,S,Q,h=>⟨_,⟨0,fun _ _=>rfl⟩,h⟩
 | o :: l,f,S,Q,h=>by
  obtain ⟨m0,⟨f',S',hk,hm⟩ | ⟨a,f',S',hq,hm⟩⟩:=bJ h
  ·obtain ⟨r,⟨m1,h1⟩,h2⟩:=sZ hk
   exact ⟨r,⟨max m0 m1,fun m hmm=>by
    show (match Fu E (ckN E m) n ops o f S with | .out .normal f' S'=>cB E (ckN E m) n ops l f' S' | x=>x)=r
    rw [hm m (by omega)]; exact h1 m (by omega)⟩,h2⟩
  ·exact ⟨_,⟨m0,fun m hmm=>by
    show (match Fu E (ckN E m) n ops o f S with | .out .normal f' S'=>cB E (ckN E m) n ops l f' S' | x=>x)=_
    rw [hm m hmm]⟩,hq⟩
theorem Tx {E:Env} {n:Nat} {ops:Array Oper}:∀ {l:List RS} {f:Fr} {S:St} {Q:O → Prop},WR E n ops l f S Q → ∃ r,DT E n ops l f S r ∧ r ≠ .fail ∧ Q r
 | [],f,S,Q,h=>⟨_,⟨0,fun _ _=>rfl⟩,(fun e=>by cases e),h⟩
 | .op o :: l,f,S,Q,h=>by
  obtain ⟨m0,⟨f',S',hk,hm⟩ | ⟨a,f',S',hq,hm⟩⟩:=bJ h
  ·obtain ⟨r,⟨m1,h1⟩,h3,h2⟩:=Tx hk
   exact ⟨r,⟨max m0 m1,fun m hmm=>by
    show (match Fu E (ckN E m) n ops o f S with | .out .normal f' S'=>Fc E (ckN E m) n ops l f' S' | x=>x)=r
    rw [hm m (by omega)]; exact h1 m (by omega)⟩,h3,h2⟩
  ·exact ⟨_,⟨m0,fun m hmm=>by
    show (match Fu E (ckN E m) n ops o f S with | .out .normal f' S'=>Fc E (ckN E m) n ops l f' S' | x=>x)=_
    rw [hm m hmm]⟩,(fun e=>by cases e),hq⟩
 | .re o :: l,f,S,Q,h=>by
  obtain ⟨r,⟨m1,h1⟩,h3,h2⟩:=Tx h.2
  exact ⟨r,⟨m1,fun m hmm=>by
   show (if Dy E ops o f.tmps S=true then Fc E (ckN E m) n ops l f S else .fail)=r
   rw [if_pos h.1]; exact h1 m hmm⟩,h3,h2⟩
theorem WD_steps {E:Env} {n:Nat} {ops:Array Oper} {f:Fr} {S:St} {Q:O → Prop} {rs:List RS} (h3:Nj ops (bm ops.toList []) (Nh ops (bm ops.toList []) ops.size (List.range ops.size) 0) []=some rs)
  (h2:Qc ops (bm ops.toList []) (Nh ops (bm ops.toList []) ops.size (List.range ops.size) 0)=true) (h:WR E n ops rs f S (fun r=>Q (Ln ⟨Gq ops.toList f.tmps,f.dfr⟩ r))):WD E n ops f S Q:=by
 obtain ⟨r,⟨m0,hm⟩,hne,hq⟩:=Tx h
 have h1:Pp E.P ops=none:=by unfold Pp; simp only [h2,if_true]
 have h1m:Rq E.P ops=none:=by unfold Rq; simp only [h2,if_true]
 have h1n:P7 E.P ops=none:=by unfold P7; simp only [h2,if_true]
 refine ⟨_,⟨m0,fun m hmm=>?_⟩,hq⟩
 unfold C1
 rw [h1]
 simp only [h1m,h1n]
 unfold Ib
 simp only
 rw [if_pos h2]
 rcases Kw (E:=E) (ck:=ckN E m) (n:=n) (fb:=⟨Gq ops.toList f.tmps,f.dfr⟩) _ rs f S [] h3 (fun _ h=>absurd h List.not_mem_nil) with h | h
 ·rw [hm m hmm] at h; exact absurd h hne
 ·rw [h,hm m hmm]
theorem WD_fl {E:Env} {n:Nat} {ops:Array Oper} {f:Fr} {S:St} {Q:O → Prop} {x:FlP} {rs:List RS} (h1:Pp E.P ops=some x) (h2:Rb ops x=some rs) (h3:x.d < n)
  (h:WR E n ops rs ⟨f.tmps.set x.d none,f.dfr⟩ S (fun r=>Q (Ln ⟨Gq ops.toList f.tmps,f.dfr⟩ r))):WD E n ops f S Q:=by
 obtain ⟨r,⟨m0,hm⟩,hne,hq⟩:=Tx h
 refine ⟨_,⟨m0,fun m hmm=>?_⟩,hq⟩
 unfold C1
 rw [h1]
 simp only
 unfold R0
 rw [h2]
 simp only
 rw [if_pos h3,hm m hmm]
def Gu (ops:Array Oper):List (Nat × Bool) → List RS
 | []=>[]
 | (i,b) :: r=>match ops[i]? with
  | some o=>(if b then RS.op o else RS.re o) :: Gu ops r
  | none=>[]
theorem B8 (K:Fr → St → Prop) (Q:O → Prop) (f:Fr) (S:St):Uy K Q (.out .normal f S)=K f S:=rfl
theorem Cf (K:Fr → St → Prop) (Q:O → Prop) (id:Nat) (f:Fr) (S:St):Uy K Q (.out (.exit id) f S)=Q (.out (.exit id) f S):=rfl
theorem C8 (K:Fr → St → Prop) (Q:O → Prop) (f:Fr) (S:St):Uy K Q (.out .ret f S)=Q (.out .ret f S):=rfl
theorem Da (K:Fr → St → Prop) (Q:O → Prop) (a:AV) (f:Fr) (S:St):Uy K Q (.out (.pan a) f S)=Q (.out (.pan a) f S):=rfl
theorem El {E:Env} {n:Nat}:∀ {c:Code} {f:Fr} {S:St} {Q:O → Prop},W E n c f S Q → WX E n c f S Q:=by
 have up:∀ {c:Code} {f:Fr} {S:St} {r:O},(∃ m0,∀ m,m0 ≤ m → Fh E (C1 E) (run E (C1 E) m) (ckN E m) n c f S=r) → RT E n c f S r:=fun ⟨m0,h⟩=>⟨m0 + 1,fun m hm=>by
  obtain ⟨k,rfl⟩:∃ k,m=k + 1:=⟨m - 1,by omega⟩
  rw [pF]; exact h k (by omega)⟩
 intro c
 induction c with
 | skip=>intro f S Q h; unfold W at h; exact ⟨_,up ⟨0,fun _ _=>rfl⟩,h⟩
 | label l=>intro f S Q h; unfold W at h; exact ⟨_,up ⟨0,fun _ _=>rfl⟩,h⟩
 | region id ops draw =>
  intro f S Q h
  unfold W at h
  cases draw with
  | false =>
   obtain ⟨r,⟨m0,hm⟩,hq⟩:=sZ h
   exact ⟨r,up ⟨m0,fun m hmm=>hm m hmm⟩,hq⟩
  | true =>
   obtain ⟨r,⟨m0,hm⟩,hq⟩:=h
   exact ⟨r,up ⟨m0,fun m hmm=>hm m hmm⟩,hq⟩
 | seq a b iha ihb =>
  intro f S Q h
  unfold W at h
  obtain ⟨r,⟨m0,hm⟩,hq⟩:=iha h
  have other:Uy (fun f' S'=>W E n b f' S' Q) Q r=Q r → (∀ m,m0 ≤ m → Fh E (C1 E) (run E (C1 E) m) (ckN E m) n (.seq a b) f S=r) → WX E n (.seq a b) f S Q:=fun e he=>⟨r,up ⟨m0,he⟩,by rw [← e]; exact hq⟩
  cases r with
  | fail=>exact other rfl (fun m hmm=>by unfold Fh; simp only [hm m hmm])
  | out e f' S' =>
   cases e with
   | normal =>
    obtain ⟨r,⟨m1,h1⟩,hq⟩:=ihb hq
    exact ⟨r,up ⟨max m0 m1,fun m hmm=>by
     unfold Fh; simp only
     rw [hm m (by omega)]; exact h1 m (by omega)⟩,hq⟩
   | exit id=>exact other rfl (fun m hmm=>by unfold Fh; simp only [hm m hmm])
   | ret=>exact other rfl (fun m hmm=>by unfold Fh; simp only [hm m hmm])
   | pan a=>exact other rfl (fun m hmm=>by unfold Fh; simp only [hm m hmm])
 | cond c x y ihx ihy =>
  intro f S Q h
  unfold W at h
  unfold Xj at h
  split at h
  ·rename_i hc
   obtain ⟨r,⟨m0,hm⟩,hq⟩:=ihx h
   exact ⟨r,up ⟨m0,fun m hmm=>by unfold Fh; simp only [hc]; exact hm m hmm⟩,hq⟩
  ·rename_i hc
   obtain ⟨r,⟨m0,hm⟩,hq⟩:=ihy h
   exact ⟨r,up ⟨m0,fun m hmm=>by unfold Fh; simp only [hc]; exact hm m hmm⟩,hq⟩
  ·exact h.elim
 | block id c ih =>
  intro f S Q h
  unfold W at h
  obtain ⟨r,⟨m0,hm⟩,hq⟩:=ih h
  have other:Ow id Q r=Q r → (∀ m,m0 ≤ m → Fh E (C1 E) (run E (C1 E) m) (ckN E m) n (.block id c) f S=r) → WX E n (.block id c) f S Q:=fun e he=>⟨r,up ⟨m0,he⟩,by rw [← e]; exact hq⟩
  cases r with
  | fail=>exact other rfl (fun m hmm=>by unfold Fh; simp only [hm m hmm])
  | out e f' S' =>
   cases e with
   | exit id' =>
    unfold Ow at hq
    simp only at hq
    by_cases hi:id' = id
    ·rw [if_pos hi] at hq
     exact ⟨_,up ⟨m0,fun m hmm=>by unfold Fh; simp only [hm m hmm,if_pos hi]⟩,hq⟩
    ·rw [if_neg hi] at hq
     exact ⟨_,up ⟨m0,fun m hmm=>by unfold Fh; simp only [hm m hmm,if_neg hi]⟩,hq⟩
   | normal=>exact other rfl (fun m hmm=>by unfold Fh; simp only [hm m hmm])
   | ret=>exact other rfl (fun m hmm=>by unfold Fh; simp only [hm m hmm])
   | pan a=>exact other rfl (fun m hmm=>by unfold Fh; simp only [hm m hmm])
 | loop c ih=>intro f S Q h; unfold W at h; exact h
 | exit id=>intro f S Q h; unfold W at h; exact ⟨_,up ⟨0,fun _ _=>rfl⟩,h⟩
 | ret=>intro f S Q h; unfold W at h; exact ⟨_,up ⟨0,fun _ _=>rfl⟩,h⟩
 | _=>intro f S Q h; unfold W at h; exact h.elim
theorem WX.mono {E:Env} {n:Nat} {c:Code} {f:Fr} {S:St} {Q Q':O → Prop} (h:WX E n c f S Q) (hq:∀ r,Q r → Q' r):WX E n c f S Q':=by
 obtain ⟨r,h1,h2⟩:=h; exact ⟨r,h1,hq r h2⟩
theorem WC.mono {E:Env} {k:FuncId} {args:List AV} {S:St} {Q Q':R → Prop} (h:WC E k args S Q) (hq:∀ r,Q r → Q' r):WC E k args S Q':=by
 obtain ⟨r,h1,h2⟩:=h; exact ⟨r,h1,hq r h2⟩
theorem Fe {E:Env} {n:Nat} {c:Code} {f:Fr} {S:St} {Q:O → Prop} (h:WX E n c f S (Uy (fun f' S'=>WX E n (.loop c) f' S' Q) Q)):WX E n (.loop c) f S Q:=by
 obtain ⟨r,⟨m0,hm⟩,hq⟩:=h
 have up:∀ {r:O},(∃ m0,∀ m,m0 ≤ m → Fh E (C1 E) (run E (C1 E) m) (ckN E m) n (.loop c) f S=r) → RT E n (.loop c) f S r:=fun ⟨m0,h⟩=>⟨m0 + 1,fun m hm=>by
  obtain ⟨k,rfl⟩:∃ k,m=k + 1:=⟨m - 1,by omega⟩
  rw [pF]; exact h k (by omega)⟩
 have other:Uy (fun f' S'=>WX E n (.loop c) f' S' Q) Q r=Q r → (∀ m,m0 ≤ m → Fh E (C1 E) (run E (C1 E) m) (ckN E m) n (.loop c) f S=r) → WX E n (.loop c) f S Q:=fun e he=>⟨r,up ⟨m0,he⟩,by rw [← e]; exact hq⟩
 cases r with
 | fail=>exact other rfl (fun m hmm=>by unfold Fh; simp only [hm m hmm])
 | out e f' S' =>
  cases e with
  | normal =>
   obtain ⟨r,⟨m1,h1⟩,hq⟩:=hq
   exact ⟨r,up ⟨max m0 m1,fun m hmm=>by
    unfold Fh; simp only
    rw [hm m (by omega)]; exact h1 m (by omega)⟩,hq⟩
  | exit id=>exact other rfl (fun m hmm=>by unfold Fh; simp only [hm m hmm])
  | ret=>exact other rfl (fun m hmm=>by unfold Fh; simp only [hm m hmm])
  | pan a=>exact other rfl (fun m hmm=>by unfold Fh; simp only [hm m hmm])
def By (E:Env) (rs:List ResultVar) (f:Fr) (S:St) (Q:R → Prop):Prop:=match f.dfr,Bf E f.tmps S rs with
 | [],some l=>Q (.ret (Cl l) S)
 | _,_=>False
def finW (E:Env) (rs:List ResultVar) (Q:R → Prop):O → Prop
 | .out .normal f S=>By E rs f S Q
 | .out .ret f S=>By E rs f S Q
 | .out (.pan a) f S=>f.dfr=[] ∧ Q (.pan a S)
 | _=>False
theorem WC_ext {E:Env} {k:FuncId} {args:List AV} {S:St} {Q:R → Prop} (fn:Func) (hI:E.I k=none) (hF:E.F k=some fn) (hb:fn.body.isSome=true) (hl:args.length ≤ fn.ntmps)
  (h:WX E fn.ntmps (fn.body.getD .skip) ⟨Cc args 0,[]⟩ S (finW E fn.results.toList Q)):WC E k args S Q:=by
 obtain ⟨r,⟨m0,hm⟩,hq⟩:=h
 obtain ⟨c,hc⟩:=Option.isSome_iff_exists.1 hb
 have key:∀ m,m0 ≤ m → ckN E m k args S=Xe E (run E (C1 E) m) fn r:=fun m hmm=>by
  show La E (run E (C1 E) m) k args S=_
  unfold La
  rw [hI,hF]
  simp only [hc,if_pos hl]
  have:=hm m hmm
  rw [hc] at this
  rw [show run E (C1 E) m fn.ntmps c ⟨Cc args 0,[]⟩ S=r from this]
 have give:∀ (f:Fr) (S':St),By E fn.results.toList f S' Q → ∃ l,f.dfr=[] ∧ Bf E f.tmps S' fn.results.toList=some l ∧ Q (.ret (Cl l) S'):=fun f S' hg=>by
  unfold By at hg
  split at hg
  ·rename_i l h1 h2; exact ⟨l,h1,h2,hg⟩
  ·exact hg.elim
 cases r with
 | fail=>exact hq.elim
 | out e f' S' =>
  cases e with
  | normal =>
   obtain ⟨l,h1,h2,h3⟩:=give f' S' hq
   exact ⟨_,⟨m0,fun m hmm=>by rw [key m hmm]; simp only [Xe,h1,Mp,h2]⟩,h3⟩
  | ret =>
   obtain ⟨l,h1,h2,h3⟩:=give f' S' hq
   exact ⟨_,⟨m0,fun m hmm=>by rw [key m hmm]; simp only [Xe,h1,Mp,h2]⟩,h3⟩
  | pan a=>exact ⟨_,⟨m0,fun m hmm=>by rw [key m hmm]; simp only [Xe,hq.1]⟩,hq.2⟩
  | exit id=>exact hq.elim
theorem Dx {E:Env} {k:FuncId} {args:List AV} {S:St} {Q:R → Prop} (fn:Func) (hI:E.I k=none) (hF:E.F k=some fn) (hb:fn.body.isSome=true) (hl:args.length ≤ fn.ntmps)
  (h:W E fn.ntmps (fn.body.getD .skip) ⟨Cc args 0,[]⟩ S (finW E fn.results.toList Q)):WC E k args S Q:=WC_ext fn hI hF hb hl (El h)
theorem Lp {E:Env} {k:FuncId} {args:List AV} {S:St} {Q:R → Prop} {g:List AV → St → R} (hI:E.I k=some g) (h:Q (g args S)):WC E k args S Q :=
 ⟨_,⟨0,fun m _=>by show La E (run E (C1 E) m) k args S=_; unfold La; rw [hI]⟩,h⟩
def mA (E:Env) (n:Nat) (b:Code) (Q:O → Prop):O → Prop:=Uy (fun f S=>W E n b f S Q) Q
def Sc (E:Env) (n:Nat) (ops:Array Oper) (o:Oper) (l:List Oper) (f:Fr) (S:St) (Q:O → Prop):Option Bool → OR → Prop
 | none,_=>False
 | some false,_=>Z9 n f o.dst (.tup []) S (fun f' S'=>WL E n ops l f' S' Q)
 | some true,x=>execW E n o f (fun f' S'=>WL E n ops l f' S' Q) Q x
def U5 (E:Env) (n:Nat) (ops:Array Oper) (o:Oper) (l:List RS) (f:Fr) (S:St) (Q:O → Prop):Option Bool → OR → Prop
 | none,_=>False
 | some false,_=>Z9 n f o.dst (.tup []) S (fun f' S'=>WR E n ops l f' S' Q)
 | some true,x=>execW E n o f (fun f' S'=>WR E n ops l f' S' Q) Q x
def Yb (E:Env) (n:Nat) (ops:Array Oper) (l:List Oper) (dst:Option Tmp) (f:Fr) (a:AV) (S:St) (Q:O → Prop):Prop:=Z9 n f dst a S (fun f' S'=>WL E n ops l f' S' Q)
def Sx (E:Env) (n:Nat) (ops:Array Oper) (l:List RS) (dst:Option Tmp) (f:Fr) (a:AV) (S:St) (Q:O → Prop):Prop:=Z9 n f dst a S (fun f' S'=>WR E n ops l f' S' Q)
def retL (E:Env) (n:Nat) (ops:Array Oper) (l:List Oper) (dst:Option Tmp) (f:Fr) (Q:O → Prop):R → Prop:=retW n f dst (fun f' S'=>WL E n ops l f' S' Q) Q
def iF (E:Env) (n:Nat) (ops:Array Oper) (l:List RS) (dst:Option Tmp) (f:Fr) (Q:O → Prop):R → Prop:=retW n f dst (fun f' S'=>WR E n ops l f' S' Q) Q
def fixQ (ops:Array Oper) (f:Fr) (Q:O → Prop):O → Prop:=fun r=>Q (Ln ⟨Gq ops.toList f.tmps,f.dfr⟩ r)
section
variable {E:Env} {n:Nat} {f:Fr} {S:St} {Q:O → Prop} {ops:Array Oper} {t:T AV} {ds:List Dfr}
theorem Br:W E n .skip f S Q=Q (.out .normal f S):=by unfold W; rfl
theorem A6 {id:Nat}:W E n (.region id ops false) f S Q=WL E n ops ops.toList f S Q:=by unfold W; rfl
theorem Ch {id:Nat}:W E n (.region id ops true) f S Q=WD E n ops f S Q:=by unfold W; rfl
theorem Bl {a b:Code}:W E n (.seq a b) f S Q=W E n a f S (mA E n b Q):=by show W E n (.seq a b) f S Q=W E n a f S (Uy (fun f S=>W E n b f S Q) Q); conv=>lhs; unfold W
theorem Bq {c:Operand} {x y:Code}:W E n (.cond c x y) f S Q=Xj (Ba E.G f.tmps c) (W E n x f S Q) (W E n y f S Q):=by conv=>lhs; unfold W
theorem Bt {id:Nat} {c:Code}:W E n (.block id c) f S Q=W E n c f S (Ow id Q):=by conv=>lhs; unfold W
theorem D5 {c:Code}:W E n (.loop c) f S Q=WX E n (.loop c) f S Q:=by unfold W; rfl
theorem Dk {id:Nat}:W E n (.exit id) f S Q=Q (.out (.exit id) f S):=by unfold W; rfl
theorem Bw:W E n .ret f S Q=Q (.out .ret f S):=by unfold W; rfl
theorem Be {b:Code}:mA E n b Q (.out .normal f S)=W E n b f S Q:=rfl
theorem Cq {b:Code} {id:Nat}:mA E n b Q (.out (.exit id) f S)=Q (.out (.exit id) f S):=rfl
theorem Cv {b:Code}:mA E n b Q (.out .ret f S)=Q (.out .ret f S):=rfl
theorem B6 {b:Code} {a:AV}:mA E n b Q (.out (.pan a) f S)=Q (.out (.pan a) f S):=rfl
theorem B4 {id:Nat}:Ow id Q (.out .normal f S)=Q (.out .normal f S):=rfl
theorem Cs {id:Nat}:Ow id Q (.out .ret f S)=Q (.out .ret f S):=rfl
theorem Cu {id:Nat} {a:AV}:Ow id Q (.out (.pan a) f S)=Q (.out (.pan a) f S):=rfl
theorem Cp {id id':Nat}:Ow id Q (.out (.exit id') f S)=if id' = id then Q (.out .normal f S) else Q (.out (.exit id') f S):=rfl
theorem B1:WL E n ops [] f S Q=Q (.out .normal f S):=rfl
theorem A7 {o:Oper} {l:List Oper}:WL E n ops (o :: l) f S Q=Sc E n ops o l f S Q (A5 ops o f.tmps) (Bc E f.tmps S o):=by
 show Ze E n ops o f S (fun f' S'=>WL E n ops l f' S' Q) Q=_
 unfold Ze
 cases A5 ops o f.tmps with
 | none=>rfl
 | some b=>cases b <;> rfl
theorem Ct {o:Oper} {l:List Oper} {x:OR}:Sc E n ops o l f S Q (some false) x=Yb E n ops l o.dst f (.tup []) S Q:=by cases x <;> rfl
theorem A9 {o:Oper} {l:List Oper} {a:AV} {S':St}:Sc E n ops o l f S Q (some true) (.val a S')=Yb E n ops l o.dst f a S' Q:=rfl
theorem Bm {o:Oper} {l:List Oper} {S':St}:Sc E n ops o l f S Q (some true) (.skip S')=Yb E n ops l o.dst f (.tup []) S' Q:=rfl
theorem Bd {o:Oper} {l:List Oper} {k:FuncId} {args:List AV} {S':St}:Sc E n ops o l f S Q (some true) (.enter k args S')=WC E k args S' (retL E n ops l o.dst f Q):=rfl
theorem Gx {o:Oper} {l:List Oper} {fn:Fn} {caps args:List AV} {S':St}:Sc E n ops o l f S Q (some true) (.dfr fn caps args S')=Yb E n ops l o.dst { f with dfr:=⟨fn,caps,args⟩ :: f.dfr } (.tup []) S' Q:=rfl
theorem Di {o:Oper} {l:List Oper} {a:AV} {S':St}:Sc E n ops o l f S Q (some true) (.pan a S')=Q (.out (.pan a) f S'):=rfl
theorem Bn {l:List Oper} {a:AV}:Yb E n ops l none f a S Q=WL E n ops l f S Q:=rfl
theorem A8 {l:List Oper} {d:Nat} {a:AV}:Yb E n ops l (some d) ⟨t,ds⟩ a S Q=(d < n ∧ WL E n ops l ⟨t.set d (some a),ds⟩ S Q):=rfl
theorem Bk {l:List Oper} {dst:Option Tmp} {a:AV}:retL E n ops l dst f Q (.ret a S)=Yb E n ops l dst f a S Q:=rfl
theorem Ca {l:List Oper} {dst:Option Tmp} {a:AV}:retL E n ops l dst f Q (.pan a S)=Q (.out (.pan a) f S):=rfl
theorem Kz:WR E n ops [] f S Q=Q (.out .normal f S):=rfl
theorem Dj {o:Oper} {l:List RS}:WR E n ops (.op o :: l) f S Q=U5 E n ops o l f S Q (A5 ops o f.tmps) (Bc E f.tmps S o):=by
 show Ze E n ops o f S (fun f' S'=>WR E n ops l f' S' Q) Q=_
 unfold Ze
 cases A5 ops o f.tmps with
 | none=>rfl
 | some b=>cases b <;> rfl
theorem Iv {o:Oper} {l:List RS}:WR E n ops (.re o :: l) f S Q=(Dy E ops o f.tmps S=true ∧ WR E n ops l f S Q):=rfl
theorem Hi {o:Oper} {l:List RS} {x:OR}:U5 E n ops o l f S Q (some false) x=Sx E n ops l o.dst f (.tup []) S Q:=by cases x <;> rfl
theorem Dw {o:Oper} {l:List RS} {a:AV} {S':St}:U5 E n ops o l f S Q (some true) (.val a S')=Sx E n ops l o.dst f a S' Q:=rfl
theorem Eo {o:Oper} {l:List RS} {S':St}:U5 E n ops o l f S Q (some true) (.skip S')=Sx E n ops l o.dst f (.tup []) S' Q:=rfl
theorem Dp {o:Oper} {l:List RS} {k:FuncId} {args:List AV} {S':St}:U5 E n ops o l f S Q (some true) (.enter k args S')=WC E k args S' (iF E n ops l o.dst f Q):=rfl
theorem Ha {o:Oper} {l:List RS} {a:AV} {S':St}:U5 E n ops o l f S Q (some true) (.pan a S')=Q (.out (.pan a) f S'):=rfl
theorem Em {l:List RS} {a:AV}:Sx E n ops l none f a S Q=WR E n ops l f S Q:=rfl
theorem C6 {l:List RS} {d:Nat} {a:AV}:Sx E n ops l (some d) ⟨t,ds⟩ a S Q=(d < n ∧ WR E n ops l ⟨t.set d (some a),ds⟩ S Q):=rfl
theorem D8 {l:List RS} {dst:Option Tmp} {a:AV}:iF E n ops l dst f Q (.ret a S)=Sx E n ops l dst f a S Q:=rfl
theorem Ff {l:List RS} {dst:Option Tmp} {a:AV}:iF E n ops l dst f Q (.pan a S)=Q (.out (.pan a) f S):=rfl
theorem Cw {x y:Prop}:Xj (some (.v (.bool true))) x y=x:=rfl
theorem Cr {x y:Prop}:Xj (some (.v (.bool false))) x y=y:=rfl
theorem D2 {g:Fr}:fixQ ops g Q (.out .normal f S)=Q (.out .normal f S):=rfl
theorem Fl {g:Fr} {a:AV}:fixQ ops g Q (.out (.pan a) f S)=Q (.out (.pan a) ⟨Gq ops.toList g.tmps,g.dfr⟩ S):=rfl
theorem G4 (l:List (Nat × Bool)) (h2:Qc ops (bm ops.toList []) (Nh ops (bm ops.toList []) ops.size (List.range ops.size) 0)=true)
  (h3:Nj ops (bm ops.toList []) (Nh ops (bm ops.toList []) ops.size (List.range ops.size) 0) []=some (Gu ops l)) (h:WR E n ops (Gu ops l) f S (fixQ ops f Q)):WD E n ops f S Q:=WD_steps h3 h2 h
theorem oG (l:List (Nat × Bool)) {x:FlP} (h1:Pp E.P ops=some x) (h2:Rb ops x=some (Gu ops l)) (h3:x.d < n) (h:WR E n ops (Gu ops l) ⟨f.tmps.set x.d none,f.dfr⟩ S (fixQ ops f Q)):WD E n ops f S Q:=WD_fl h1 h2 h3 h
theorem Bg {rs:List ResultVar} {Q:R → Prop}:finW E rs Q (.out .ret f S)=By E rs f S Q:=rfl
theorem B3 {rs:List ResultVar} {Q:R → Prop} {a:AV}:finW E rs Q (.out (.pan a) ⟨t,[]⟩ S)=Q (.pan a S):=by show (_ ∧ _)=_; simp
end
end Go.Ax
noncomputable section
namespace Go.Ax
open Go.RowKit
def Gh.below (γ:Gh) (n:Nat):Gh:={ γ with loc:=fun i=>if i < n then γ.loc i else none }
def AV.old (n:Nat):AV → Prop
 | .v _=>True
 | _=>False
theorem Aa.{u} {α:Sort u} {x:Decidable True} (t e:α):(if True then t else e)=t:=if_true t e
theorem Ab.{u} {α:Sort u} {x:Decidable False} (t e:α):(if False then t else e)=e:=if_false t e
theorem Ac (p:Prop):(True ∧ p)=p:=true_and p
theorem Ad (p:Prop):(p ∧ True)=p:=and_true p
theorem Ae.{u} {α:Type u} {a b:α}:(some a).getD b=a:=Option.getD_some
theorem Af.{u} {α:Type u} {xs:List α} {i:Nat}:xs.toArray[i]? = xs[i]?:=List.getElem?_toArray
theorem Ag.{u} {α:Type u} {a:α} {i:Nat} {l:List α}:(a :: l)[i + 1]? = l[i]?:=List.getElem?_cons_succ
theorem Ah.{u} {α:Type u} {a:α} {l:List α}:(a :: l)[0]? = some a:=List.getElem?_cons_zero
theorem Ai.{u,v} {α:Type u} {β:Type v} (a:α) (f:α → Option β):(some a).bind f=f a:=Option.bind_some a f
theorem Aj.{u} {α:Type u} (l:List α):[] ++ l=l:=List.nil_append l
theorem Ak.{u} {α:Type u} (l:List α):l ++ []=l:=List.append_nil l
theorem Al.{u} {α:Type u} [BEq α] [ReflBEq α] (a:α):(a == a)=true:=beq_self_eq_true a
theorem Am:(false=true)=False:=Bool.false_eq_true
theorem Ao:(true=false)=False:=Bool.true_eq_false
theorem Ap (h:Decidable True):@decide True h=true:=decide_true h
theorem Aq (h:Decidable False):@decide False h=false:=decide_false h
theorem Ar:(!true)=false:=Bool.not_true
theorem Au:(!false)=true:=Bool.not_false
theorem Av (b:Bool):(false == b)=!b:=Bool.false_beq b
theorem Aw (b:Bool):(true == b)=b:=Bool.true_beq b
theorem Ay.{u} {α:Type u} {a:α} {l:List α}:(a :: l).head? = some a:=List.head?_cons
theorem Az.{u} {α:Type u}:([]:List α).head? = none:=List.head?_nil
theorem A0 {α:Type} (t:T α) (n m:Nat) (x:Option α):(t.set n x).get m=if m=n then x else t.get m:=T.get_set t n m x
theorem A1 {α:Type} (n:Nat):(T.leaf:T α).get n=none:=T.get_leaf n
end Go.Ax
noncomputable section
namespace Go.Ax
open Go.RowKit Go.Proofs
def Sb (sz:Nat) (args:List AV) (S:St):R:=match args with
 | [.nils,.v (.int .i64 n)]=>if n=0 then .ret .nils S else if 0 < n ∧ n ≤ 3000 ∧ 0 < sz then .ret (.sl S.next 0 sz []) ⟨S.next + 1,S.mem.set S.next (some (.tip 0))⟩ else .fail
 | _=>.fail
theorem growI_ok {P:Program} {k:FuncId} {sz e:Nat} (h0:∀ w,Calls P k #[.slice none 0 0,.int .i64 0] w fun x w'=>x=.returned (.slice none 0 0) ∧ w' = w)
  (h1:∀ (n:Nat) (w:World),0 < n → n ≤ 3000 → Calls P k #[.slice none 0 0,.int .i64 n] w fun x w'=>∃ c,x=.returned (.slice (some ⟨w.heap.size,0,none⟩) 0 c) ∧ w'.ownsRow w.heap.size e sz (.slice (some ⟨w.heap.size,0,none⟩) 0 c) 0 [] ∧ Below w.heap.size w w')
  (base:Nat) (w0:World) (args:List AV) (S:St) (hne:Sb sz args S ≠ .fail) (γ:Gh) (w:World) (vs:List Value) (hS:SR base w0 γ S w) (hv:VRL γ w args vs):Calls P k vs.toArray w (Ni base w0 γ S w (Sb sz args S)):=by
 generalize hr:Sb sz args S=r at hne ⊢
 unfold Sb at hr
 split at hr
 ·rename_i n
  obtain ⟨x,y,rfl,hx,hy⟩:=hv.two
  cases hx; cases hy
  split at hr
  ·rename_i hn
   subst hn; subst hr
   refine (h0 w).mono fun x w' ⟨hx,hw⟩=>?_
   subst hx; subst hw
   exact ⟨γ,_,hS,.refl _ _ _,.nils,rfl⟩
  ·split at hr
   ·rename_i hn
    obtain ⟨n1,n2,n3⟩:=hn
    subst hr
    have:=h1 n.toNat w (by omega) (by omega)
    rw [show ((n.toNat:Nat):Int)=n by omega] at this
    refine this.mono fun x w' ⟨c,hx,hown,hb⟩=>?_
    subst hx
    obtain ⟨k1,k2⟩:=hS.after hb
    rcases hown.2 with ⟨hnil,_⟩ | ⟨g,cap,cur,hg,hlo,hcur,hc1,hc2,hc3,hc4⟩
    ·cases hnil
    ·injection hg with hg1 hg2 hg3
     injection hg1 with hg1
     injection hg1 with hg1
     subst hg3; subst hg1
     have hlt:w.heap.size < w'.heap.size:=(Array.getElem?_eq_some_iff.1 hcur).1
     have hf:=k1.fresh S.next (Nat.le_refl _)
     have hnew:∀ id c s',S.mem.get id=some c → γ.loc id ≠ some (w.heap.size,s'):=fun id c s' hm hl=>by
      have:=hS.inb id _ _ hl; omega
     obtain ⟨j1,j2⟩:=k1.name w.heap.size 0 (.tip 0) hS.hbase hlt ⟨cur,e,hcur,fun o ho=>by have:=Tf hS ho; omega,Nat.zero_le _⟩ hnew
     have hx2:=k2.newName (s:=0) (c:=.tip 0) hf.1 hf.2 rfl
     refine ⟨γ.withLoc S.next w.heap.size 0,_,j1,hx2,?_,rfl⟩
     refine .sl S.next 0 sz [] w.heap.size 0 c (fun _=>undef) n3 (fun _ h=>absurd h List.not_mem_nil) (fun _ h=>absurd h List.not_mem_nil) (fun k h=>absurd h (Nat.not_lt_zero k)) (fun k h=>absurd h (Nat.not_lt_zero k)) (fun _=>⟨0,?_,rfl⟩) (fun h=>?_) (Nat.zero_le _) ⟨cur,e,(0,0),hcur,by omega⟩
     ·show (if S.next=S.next then _ else _)=_; rw [if_pos rfl]
     ·have:=hS.pos; omega
   ·exact absurd hr.symm hne
 ·exact absurd hr.symm hne
theorem rG:(Tryz.prog.info? 54).map (fun i=>(i.zero,i.size,i.bytes))=some (some (.agg #[.string ⟨#[]⟩,.int .i64 0,.bool false,.bool false,.string ⟨#[]⟩,.bool false]),6,56):=by kernel_rfl
theorem bD:Tryz.prog.underlying 46=some (.slice 54):=by kernel_rfl
theorem Hl {P:Program} {t:TypeId} {z:Option Value} {s b:Nat} (h:(P.info? t).map (fun i=>(i.zero,i.size,i.bytes))=some (z,s,b)):∃ i,P.info? t=some i ∧ i.zero=z ∧ i.size=s ∧ i.bytes=b:=by
 cases hi:P.info? t with
 | none=>rw [hi] at h; cases h
 | some i =>
  rw [hi] at h
  simp only [Option.map_some,Option.some.injEq,Prod.mk.injEq] at h
  exact ⟨i,rfl,h.1,h.2.1,h.2.2⟩
set_option maxHeartbeats 4000000 in
set_option maxRecDepth 100000 in
theorem grow_none (w:World):Calls Tryz.prog 94 #[.slice none 0 0,.int .i64 0] w fun e w'=>e=.returned (.slice none 0 0) ∧ w' = w:=by
 go_enter Tryz.func94,Tryz.ntmps94
 go_wp2_with fail
 go_ret
 exact ⟨rfl,rfl⟩
set_option maxHeartbeats 4000000 in
set_option maxRecDepth 100000 in
theorem grow_some (n:Nat) (w:World) (h0:0 < n) (hn:n ≤ 3000) :
  Calls Tryz.prog 94 #[.slice none 0 0,.int .i64 n] w fun e w'=>∃ c,e=.returned (.slice (some ⟨w.heap.size,0,none⟩) 0 c) ∧ w'.ownsRow w.heap.size 54 6 (.slice (some ⟨w.heap.size,0,none⟩) 0 c) 0 [] ∧ Below w.heap.size w w':=by
 obtain ⟨i0,hi,hz0,hz1,hz2⟩:=Hl rG
 have hrz:∀ ty,(Builtin.append_ #[46,3] ty #[.slice none 0 0,.int .i64 ((n:Nat):Int)]).run Tryz.prog w =
   .ok (.slice (some ⟨w.heap.size,0,none⟩) n (grownCap w n 0 54)) (w.drew.alloc (.cells (#[] ++ Builtin.zeroCells (Value.cells (.agg #[.string ⟨#[]⟩,.int .i64 0,.bool false,.bool false,.string ⟨#[]⟩,.bool false])) n ++ Builtin.zeroCells (Value.cells (.agg #[.string ⟨#[]⟩,.int .i64 0,.bool false,.bool false,.string ⟨#[]⟩,.bool false])) (grownCap w n 0 54 - n)) 54)):=fun ty=>by
  have h:=Lib.run_append_grow_zeros w 46 3 ty 54 i0 _ .i64 .i64 bD Tryz.underlying3 hi hz0 none 0 0 [] (by rw [hz1]; exact run_firstCells_none w.drew 6 0 0 0) n h0 (by omega) (by omega) (by omega) (by rw [hz2]; omega)
   (growslice_fits (by omega) (by rw [hz2]; omega))
  simpa using h
 have hG1:=Oh w n 0 54
 have hG2:=grownCap_le_maxLen w n 0 54 (by unfold maxLen; omega)
 obtain ⟨G,hG⟩:∃ G,G=grownCap w n 0 54:=⟨_,rfl⟩
 rw [← hG] at hrz hG1 hG2
 clear hG
 have h4:((n:Int) > 0):=by omega
 unfold maxLen at hG2
 go_enter Tryz.func94,Tryz.ntmps94
 go_wp2_with (at_builtin; refine Lib.wpList_append_run _ rfl _ _ _ _ rfl _ _ rfl rfl _ _ (hrz _) ?_)
 all_goals
  go_ret
  refine ⟨G,rfl,World.ownsRow_made w.drew _ G (Nat.le_refl _) (by unfold maxLen; omega) ?_,((Below.refl _ _).drew).alloc (Nat.le_refl _) _⟩
  simp only [Array.size_append,size_zeroCells]
  simp [Value.cells]
  omega
theorem grow_I (base:Nat) (w0:World) (args:List AV) (S:St) (hne:Sb 6 args S ≠ .fail) (γ:Gh) (w:World) (vs:List Value) (hS:SR base w0 γ S w) (hv:VRL γ w args vs):Calls Tryz.prog 94 vs.toArray w (Ni base w0 γ S w (Sb 6 args S)) :=
 growI_ok grow_none (fun n w h0 h1=>grow_some n w h0 h1) base w0 args S hne γ w vs hS hv
end Go.Ax
noncomputable section
namespace Go.Ax
open Go.RowKit Go.Proofs
set_option maxRecDepth 100000
def Io:Nat → List UInt8 → Nat
 | a,[]=>a
 | a,c :: r=>Io (a * 10 + (c.toNat - 48)) r
def Uv (b:UInt8):Bool:=48 ≤ b.toNat && b.toNat ≤ 57
def puI (args:List AV):Option AV:=match args with
 | [.v (.string s),.v (.int .i64 10),.v (.int .i64 64)]=>if s.data.toList ≠ [] ∧ s.data.toList.all Uv=true ∧ Io 0 s.data.toList < 18446744073709551616 ∧ s.size ≤ 9223372036854775806 then some (.tup [.v (.int .u64 (Io 0 s.data.toList)),.v .nilIface])
  else if s.data.toList ≠ [] ∧ s.data.toList.all Uv=true ∧ 18446744073709551616 ≤ Io 0 s.data.toList ∧ s.size ≤ 281474976710656 then some (.tup [.v (.int .u64 18446744073709551615),.iface 251 (.ep [])]) else none
 | _=>none
def gR:Gl:=fun g=>Bool.rec none (some [.iface 278 (.ep [])]) (Nat.beq g 5)
def rowM (t:Nat):Nat:=Bool.rec (Bool.rec (Bool.rec (Bool.rec 0 2 (Nat.beq t 138)) 2 (Nat.beq t 136)) 1 (Nat.beq t 47)) 1 (Nat.beq t 28)
def E1:Env:={ P:=Tryz.prog,G:=gR,F:=fun k=>match Tryz.prog.funcs[k]? with | some fn=>if fn.body.isSome then some fn else none | none=>none,I:=fun k=>Bool.rec (Bool.rec none (some (Sb 6)) (Nat.beq k 94)) (some (F4 puI)) (Nat.beq k 133),M:=rowM }
theorem e1_names:(Tryz.prog.funcs.toList.all fun fn=>!(fn.name == "runtime.NumGoroutine"))=true:=by kernel_rfl
theorem To:E1.Ok:=⟨fun k fn h=>by
 simp only [E1] at h
 split at h
 ·rename_i fn' hf
  split at h
  ·rename_i hb
   injection h with h; subst h
   have hm:fn' ∈ Tryz.prog.funcs.toList:=by
    have:=Array.mem_of_getElem? hf
    simpa using this
   have:=List.all_eq_true.1 e1_names fn' hm
   exact ⟨hf,by simpa using this,Option.isSome_iff_exists.1 hb⟩
  ·cases h
 ·cases h⟩
theorem yW:∀ (l:List UInt8) (a:Nat),a ≤ Io a l
 | [],a=>Nat.le_refl _
 | c :: r,a=>by
  have:=yW r (a * 10 + (c.toNat - 48))
  show a ≤ Io (a * 10 + (c.toNat - 48)) r
  omega
theorem iS:∀ (l:List UInt8) (a:Nat),l.all Uv=true → Io a l < 18446744073709551616 → Lib.parseUintM (2 ^ 64 - 1) a l=.ok (Io a l)
 | [],a,_,_=>rfl
 | c :: r,a,hd,h=>by
  rw [List.all_cons,Bool.and_eq_true] at hd
  have hc:48 ≤ c.toNat ∧ c.toNat ≤ 57:=by have:=hd.1; unfold Uv at this; simpa using this
  have h1:a * 10 + (c.toNat - 48) ≤ Io (a * 10 + (c.toNat - 48)) r:=yW r _
  have h2:Io a (c :: r)=Io (a * 10 + (c.toNat - 48)) r:=rfl
  rw [h2] at h ⊢
  unfold Lib.parseUintM
  rw [if_pos hc,if_neg (by omega),if_neg (by omega)]
  exact iS r _ hd.2 h
theorem qC {l:List UInt8} (hn:l ≠ []) (hd:l.all Uv=true) (h:Io 0 l < 18446744073709551616):Lib.parseUintB 64 l=.ok (Io 0 l):=by
 unfold Lib.parseUintB; rw [if_neg hn]; exact iS l 0 hd h
theorem Wj:∀ (l:List UInt8) (a:Nat),l.all Uv=true → a < 18446744073709551616 → 18446744073709551616 ≤ Io a l → Lib.parseUintM (2 ^ 64 - 1) a l=.range
 | [],a,_,h1,h2=>absurd h1 (Nat.not_lt.2 h2)
 | c :: r,a,hd,h1,h=>by
  rw [List.all_cons,Bool.and_eq_true] at hd
  have hc:48 ≤ c.toNat ∧ c.toNat ≤ 57:=by have:=hd.1; unfold Uv at this; simpa using this
  have h2:Io a (c :: r)=Io (a * 10 + (c.toNat - 48)) r:=rfl
  rw [h2] at h
  unfold Lib.parseUintM
  rw [if_pos hc]
  by_cases h3:1844674407370955162 ≤ a
  ·rw [if_pos h3]
  ·rw [if_neg h3]
   by_cases h4:2 ^ 64 - 1 < a * 10 + (c.toNat - 48)
   ·rw [if_pos h4]
   ·rw [if_neg h4]
    exact Wj r _ hd.2 (by omega) h
theorem qB {l:List UInt8} (hn:l ≠ []) (hd:l.all Uv=true) (h:18446744073709551616 ≤ Io 0 l):Lib.parseUintB 64 l=.range:=by
 unfold Lib.parseUintB; rw [if_neg hn]; exact Wj l 0 hd (by decide) h
theorem VRL.three {γ:Gh} {w:World} {a b c:AV} {vs:List Value} (h:VRL γ w [a,b,c] vs):∃ x y z,vs=[x,y,z] ∧ VR γ w a x ∧ VR γ w b y ∧ VR γ w c z:=by
 obtain ⟨h1,h2⟩:=h
 match vs,h1 with
 | [x,y,z],_=>exact ⟨x,y,z,rfl,h2 0 (by simp) (by simp),h2 1 (by simp) (by simp),h2 2 (by simp) (by simp)⟩
theorem gR_cell {γ:Gh} {w:World} (h:GR γ w gR):∃ p,w.cell? ⟨5,0,none⟩=some (.iface 278 p):=by
 have:=(h 5 _ rfl).1
 cases this with
 | ep cs b o c h h1 hr =>
  have h2:=(h 0 (by simp)).2
  have h3:=hr 0 (by simp)
  simp only [List.getElem_cons_zero,Nat.add_zero] at h2 h3
  generalize c 0=z at h2 h3
  cases h3 with
  | iface t a x h4=>exact ⟨x,h2⟩
theorem puI_ok:∀ args a,puI args=some a → ∀ γ w (vs:List Value),GR γ w gR → VRL γ w args vs → Calls Tryz.prog 133 vs.toArray w fun e w'=>Below w.heap.size w w' ∧ ∃ v,e=.returned v ∧ ∀ γ w,VR γ w a v:=by
 intro args a h γ w vs hg hv
 unfold puI at h
 split at h
 ·rename_i s
  obtain ⟨x,y,z,rfl,hx,hy,hz⟩:=hv.three
  cases hx; cases hy; cases hz
  split at h
  ·rename_i hc
   obtain ⟨h0,h1,h2,h3⟩:=hc
   injection h with h; subst h
   refine (Tryz.strconv_ParseUint_10_at64_ok s h3 _ (qC h0 h1 h2) w).mono fun e w' he=>⟨?_,_,he.1,fun γ w=>?_⟩
   ·rcases he.2 with rfl | rfl
    ·exact .refl _ _
    ·exact Lib.bytesWorld_below _ _ _
   ·exact .tup _ _ rfl (fun k hk hk'=>by
     match k,hk with
     | 0,_=>exact .v _ rfl
     | 1,_=>exact .v _ rfl)
  ·split at h
   ·rename_i hc
    obtain ⟨h0,h1,h2,h3⟩:=hc
    injection h with h; subst h
    obtain ⟨p,hp⟩:=gR_cell hg
    refine (Tryz.strconv_ParseUint_10_at64_range s h3 (qB h0 h1 h2) _ w hp (.inr ⟨_,_,rfl⟩)).mono fun e w' he=>?_
    obtain ⟨N,he1,he2,he3,he4⟩:=he
    refine ⟨he4,_,he1,fun γ w=>?_⟩
    exact .tup _ _ rfl (fun k hk hk'=>by
     match k,hk with
     | 0,_=>exact .v _ rfl
     | 1,_=>exact .iface _ _ _ (.ep [] N 0 (fun _=>undef) (fun k h=>absurd h (Nat.not_lt_zero k)) (fun _ h=>absurd h List.not_mem_nil) (fun k h=>absurd h (Nat.not_lt_zero k))))
   ·cases h
 ·cases h
theorem aS:Kg E1:=fun k g hk base w0 args S hne γ w vs hS hg hv=>by
 have hk2:(Bool.rec (Bool.rec none (some (Sb 6)) (Nat.beq k 94)) (some (F4 puI)) (Nat.beq k 133):Option (List AV → St → R))=some g:=hk
 cases hb:Nat.beq k 133 with
 | false =>
  rw [hb] at hk2
  cases hc:Nat.beq k 94 with
  | false=>rw [hc] at hk2; cases hk2
  | true =>
   rw [hc] at hk2
   injection hk2 with hk2; subst hk2
   have:k=94:=Nat.eq_of_beq_eq_true hc
   subst this
   exact grow_I base w0 args S hne γ w vs hS hv
 | true =>
  rw [hb] at hk2
  injection hk2 with hk2; subst hk2
  have:k=133:=Nat.eq_of_beq_eq_true hb
  subst this
  cases hga:puI args with
  | none=>exact absurd (by simp [F4,hga]) hne
  | some a =>
   refine (puI_ok args a hga γ w vs hg hv).mono fun e w' h=>?_
   obtain ⟨hb,v,rfl,hvr⟩:=h
   obtain ⟨h1,h2⟩:=hS.after hb
   show Ni base w0 γ S w (F4 puI args S) (.returned v) w'
   simp only [F4,hga]
   exact ⟨γ,v,h1,h2,hvr _ _,rfl⟩
theorem Tp:E1.P.follows .mixedOrders=true:=by kernel_rfl
end Go.Ax
noncomputable section
namespace Go.Ax
open Go.RowKit Go.Proofs
set_option maxRecDepth 100000
theorem B9:E1.P=Tryz.prog:=rfl
theorem Fb:E1.G=gR:=rfl
theorem Bv (a b:AV):Hs Tryz.prog 3 a b=false:=by unfold Hs; rw [Tryz.underlying3]
theorem Le (a b:AV):Hs Tryz.prog 5 a b=false:=by
 have h:Tryz.prog.underlying 5=some (.int .u8):=rfl
 unfold Hs; rw [h]
theorem Dd (k:IntKind) (x y:Int):Ea .lss (.v (.int k x)) (.v (.int k y))=some (.v (.bool (decide (x < y)))):=by simp [Ea]
theorem Ej (k:IntKind) (x y:Int):Ea .leq (.v (.int k x)) (.v (.int k y))=some (.v (.bool (decide (x ≤ y)))):=by simp [Ea]
theorem Do (k:IntKind) (x y:Int):Ea .gtr (.v (.int k x)) (.v (.int k y))=some (.v (.bool (decide (x > y)))):=by simp [Ea]
theorem Er (k:IntKind) (x y:Int):Ea .geq (.v (.int k x)) (.v (.int k y))=some (.v (.bool (decide (x ≥ y)))):=by simp [Ea]
theorem Dl (k:IntKind) (x y:Int):Ea .add (.v (.int k x)) (.v (.int k y))=some (.v (.int k (k.wrap (x + y)))):=by simp [Ea]
theorem C2 (k:IntKind) (x y:Int):Ea .neq (.v (.int k x)) (.v (.int k y))=some (.v (.bool (x != y))):=by simp [Ea]
theorem B7 (k:IntKind) (x y:Int):Ea .eql (.v (.int k x)) (.v (.int k y))=some (.v (.bool (x == y))):=by simp [Ea]
def Gk (b:UInt8):Bool:=(65 ≤ b.toNat && b.toNat ≤ 90) || (97 ≤ b.toNat && b.toNat ≤ 122) || b.toNat == 95
def D1 (b:UInt8):Bool:=48 ≤ b.toNat && b.toNat ≤ 57
def Ei (b:UInt8):Bool:=b.toNat == 32 || b.toNat == 9 || b.toNat == 10
def Lt (b:UInt8):Bool:=!(b.toNat == 10)
def Eu (b:UInt8):Bool:=Gk b || D1 b
theorem nW (b:UInt8) (S:St):WC E1 101 [Lo b] S (fun r=>r=.ret (.v (.bool (D1 b))) S):=by
 refine Dx Tryz.f101 (by kernel_rfl) (by kernel_rfl) (by kernel_rfl) (show (_:Nat) ≤ _ from by show (_:Nat) ≤ _; simp [Tryz.f101]) ?_
 unfold Lo
 by_cases h1:(48:Int) ≤ (b.toNat:Int)
 ·by_cases h2:(b.toNat:Int) ≤ 57
  ·have e:D1 b=true:=by unfold D1; simp; omega
   simp only [A6,Bl,Bw,Be,B1,A7,A9,A8,A5,Bc,Ba,Cc,A0,A1,ofOpt,Bb,B9,Bg,By,Bf,Cl,Ej,Nat.reduceLT,Nat.reduceEqDiff,Aa,Ab,Ad,Ae,Af,Ag,Ah,Ai,Al,Am,Ap,Tryz.f101,Le,h1,h2,e]
  ·have e:D1 b=false:=by unfold D1; simp; omega
   simp only [A6,Bl,Bw,Be,B1,A7,A9,A8,A5,Bc,Ba,Cc,A0,A1,ofOpt,Bb,B9,Bg,By,Bf,Cl,Ej,Nat.reduceLT,Nat.reduceEqDiff,Aa,Ab,Ad,Ae,Af,Ag,Ah,Ai,Al,Am,Ap,Aq,Tryz.f101,Le,h1,h2,e]
 ·have e:D1 b=false:=by unfold D1; simp; omega
  simp only [A6,Bl,Bw,Be,B1,A7,Ct,A9,A8,A5,Bc,Ba,Cc,A0,A1,ofOpt,Bb,B9,Fb,Bg,By,Bf,Cl,Ej,Nat.reduceLT,Nat.reduceEqDiff,Aa,Ab,Ad,Ae,Af,Ag,Ah,Ai,Am,Aq,Ar,Av,Tryz.f101,Le,h1,e]
theorem blank_w (b:UInt8) (S:St):WC E1 97 [Lo b] S (fun r=>r=.ret (.v (.bool (Ei b))) S):=by
 refine Dx Tryz.f97 (by kernel_rfl) (by kernel_rfl) (by kernel_rfl) (show (_:Nat) ≤ _ from by show (_:Nat) ≤ _; simp [Tryz.f97]) ?_
 unfold Lo
 have n1:(((b.toNat:Int) == 32)=(b.toNat == 32)):=by rw [Bool.eq_iff_iff]; simp; omega
 have n2:(((b.toNat:Int) == 9)=(b.toNat == 9)):=by rw [Bool.eq_iff_iff]; simp; omega
 have n3:(((b.toNat:Int) == 10)=(b.toNat == 10)):=by rw [Bool.eq_iff_iff]; simp; omega
 cases h1:(b.toNat == 32)
 ·cases h2:(b.toNat == 9)
  ·have e:Ei b=(b.toNat == 10):=by unfold Ei; rw [h1,h2]; rfl
   simp only [A6,Bl,Bw,Be,B1,A7,A9,A8,A5,Bc,Ba,Cc,A0,A1,ofOpt,Bb,B9,Bg,By,Bf,Cl,B7,Nat.reduceLT,Nat.reduceEqDiff,Aa,Ab,Ad,Ae,Af,Ag,Ah,Ai,Al,Am,Tryz.f97,Le,n1,n2,n3,h1,h2,e]
  ·have e:Ei b=true:=by unfold Ei; rw [h1,h2]; rfl
   simp only [A6,Bl,Bw,Be,B1,A7,Ct,A9,A8,A5,Bc,Ba,Cc,A0,A1,ofOpt,Bb,B9,Fb,Bg,By,Bf,Cl,B7,Nat.reduceLT,Nat.reduceEqDiff,Aa,Ab,Ad,Ae,Af,Ag,Ah,Ai,Al,Am,Aw,Tryz.f97,Le,n1,n2,h1,h2,e]
 ·have e:Ei b=true:=by unfold Ei; rw [h1]; rfl
  simp only [A6,Bl,Bw,Be,B1,A7,Ct,A9,A8,A5,Bc,Ba,Cc,A0,A1,ofOpt,Bb,B9,Fb,Bg,By,Bf,Cl,B7,Nat.reduceLT,Nat.reduceEqDiff,Aa,Ab,Ad,Ae,Af,Ag,Ah,Ai,Am,Aw,Tryz.f97,Le,n1,h1,e]
theorem notEnd_w (b:UInt8) (S:St):WC E1 98 [Lo b] S (fun r=>r=.ret (.v (.bool (Lt b))) S):=by
 refine Dx Tryz.f98 (by kernel_rfl) (by kernel_rfl) (by kernel_rfl) (show (_:Nat) ≤ _ from by show (_:Nat) ≤ _; simp [Tryz.f98]) ?_
 unfold Lo
 have n3:(((b.toNat:Int) != 10)=Lt b):=by unfold Lt; rw [Bool.eq_iff_iff]; simp; omega
 simp only [A6,Bl,Bw,Be,B1,A7,A9,A8,A5,Bc,Ba,Cc,A0,A1,ofOpt,Bb,B9,Bg,By,Bf,Cl,C2,Nat.reduceLT,Nat.reduceEqDiff,Aa,Ab,Ad,Ae,Am,Tryz.f98,Le,n3]
theorem qV (b:UInt8) (S:St):WC E1 99 [Lo b] S (fun r=>r=.ret (.v (.bool (Gk b))) S):=by
 refine Dx Tryz.f99 (by kernel_rfl) (by kernel_rfl) (by kernel_rfl) (show (_:Nat) ≤ _ from by show (_:Nat) ≤ _; simp [Tryz.f99]) ?_
 unfold Lo
 have n5:(((b.toNat:Int) == 95)=(b.toNat == 95)):=by rw [Bool.eq_iff_iff]; simp; omega
 have key:∀ (p q:Bool),(65 ≤ b.toNat && b.toNat ≤ 90)=p → (97 ≤ b.toNat && b.toNat ≤ 122)=q → Gk b=(p || q || b.toNat == 95):=fun p q h1 h2=>by unfold Gk; rw [h1,h2]
 by_cases h1:(65:Int) ≤ (b.toNat:Int)
 ·by_cases h2:(b.toNat:Int) ≤ 90
  ·have e:=key true (97 ≤ b.toNat && b.toNat ≤ 122) (by simp; omega) rfl
   simp only [Bool.true_or] at e
   simp only [A6,Bl,Bw,Be,B1,A7,Ct,A9,A8,A5,Bc,Ba,Cc,A0,A1,ofOpt,Bb,B9,Fb,Bg,By,Bf,Cl,Ej,Nat.reduceLT,Nat.reduceEqDiff,Aa,Ab,Ad,Ae,Af,Ag,Ah,Ai,Al,Am,Ap,Aw,Tryz.f99,Le,h1,h2,e]
  ·by_cases h3:(97:Int) ≤ (b.toNat:Int)
   ·by_cases h4:(b.toNat:Int) ≤ 122
    ·have e:=key false true (by simp; omega) (by simp; omega)
     simp only [Bool.or_true,Bool.true_or] at e
     simp only [A6,Bl,Bw,Be,B1,A7,Ct,A9,A8,A5,Bc,Ba,Cc,A0,A1,ofOpt,Bb,B9,Fb,Bg,By,Bf,Cl,Ej,Nat.reduceLT,Nat.reduceEqDiff,Aa,Ab,Ad,Ae,Af,Ag,Ah,Ai,Al,Am,Ap,Aq,Aw,Tryz.f99,Le,h1,h2,h3,h4,e]
    ·have e:=key false false (by simp; omega) (by simp; omega)
     simp only [Bool.or_false,Bool.false_or] at e
     simp only [A6,Bl,Bw,Be,B1,A7,A9,A8,A5,Bc,Ba,Cc,A0,A1,ofOpt,Bb,B9,Bg,By,Bf,Cl,Ej,B7,Nat.reduceLT,Nat.reduceEqDiff,Aa,Ab,Ad,Ae,Af,Ag,Ah,Ai,Al,Am,Ap,Aq,Tryz.f99,Le,n5,h1,h2,h3,h4,e]
   ·have e:=key false false (by simp; omega) (by simp; omega)
    simp only [Bool.or_false,Bool.false_or] at e
    simp only [A6,Bl,Bw,Be,B1,A7,Ct,A9,A8,A5,Bc,Ba,Cc,A0,A1,ofOpt,Bb,B9,Fb,Bg,By,Bf,Cl,Ej,B7,Nat.reduceLT,Nat.reduceEqDiff,Aa,Ab,Ad,Ae,Af,Ag,Ah,Ai,Al,Am,Ap,Aq,Ar,Av,Tryz.f99,Le,n5,h1,h2,h3,e]
 ·have h3:¬ (97:Int) ≤ (b.toNat:Int):=by omega
  have e:=key false false (by simp; omega) (by simp; omega)
  simp only [Bool.or_false,Bool.false_or] at e
  simp only [A6,Bl,Bw,Be,B1,A7,Ct,A9,A8,A5,Bc,Ba,Cc,A0,A1,ofOpt,Bb,B9,Fb,Bg,By,Bf,Cl,Ej,B7,Nat.reduceLT,Nat.reduceEqDiff,Aa,Ab,Ad,Ae,Af,Ag,Ah,Ai,Al,Am,Aq,Ar,Av,Tryz.f99,Le,n5,h1,h3,e]
theorem fnOk99:∃ fn,E1.F 99=some fn:=Option.isSome_iff_exists.1 (by kernel_rfl)
theorem fnOk101:∃ fn,E1.F 101=some fn:=Option.isSome_iff_exists.1 (by kernel_rfl)
theorem wordB_w (b:UInt8) (S:St):WC E1 131 [Lo b] S (fun r=>r=.ret (.v (.bool (Eu b))) S):=by
 refine Dx Tryz.f131 (by kernel_rfl) (by kernel_rfl) (by kernel_rfl) (show (_:Nat) ≤ _ from by show (_:Nat) ≤ _; simp [Tryz.f131]) ?_
 obtain ⟨fn1,hf1⟩:=fnOk99
 obtain ⟨fn2,hf2⟩:=fnOk101
 simp only [A6,Bl,Be,B1,A7,A9,Bd,A8,A5,Bc,Ba,Cc,A0,A1,Bo,B5,ofOpt,Bb,Nat.reduceLT,Nat.reduceEqDiff,Aa,Ab,Ac,Ae,Aj,Ak,Tryz.f131,hf1]
 refine WC.mono (qV b S) ?_
 rintro _ rfl
 cases h:Gk b
 ·simp only [A7,A9,Bd,A8,Bk,A5,Bc,Ba,A0,A1,Bo,B5,ofOpt,Nat.reduceLT,Nat.reduceEqDiff,Aa,Ab,Ac,Af,Ag,Ah,Ai,Aj,Ak,Al,hf2]
  refine WC.mono (nW b S) ?_
  rintro _ rfl
  have e:Eu b=D1 b:=by unfold Eu; rw [h]; rfl
  simp only [Bw,Be,B1,A7,A9,A8,Bk,A5,Bc,Ba,A0,A1,ofOpt,Bg,By,Bf,Cl,Nat.reduceLT,Nat.reduceEqDiff,Aa,Ab,Ad,e]
 ·have e:Eu b=true:=by unfold Eu; rw [h]; rfl
  simp only [Bw,Be,B1,A7,Ct,A9,A8,Bk,A5,Bc,Ba,A0,A1,Bo,B5,ofOpt,Bb,Bg,By,Bf,Cl,Nat.reduceLT,Nat.reduceEqDiff,Aa,Ab,Ad,Af,Ag,Ah,Ai,Aj,Ak,Aw,hf2,e]
end Go.Ax
noncomputable section
namespace Go.Ax
open Go.RowKit Go.Proofs
set_option maxRecDepth 100000
def Bp (l:List UInt8):AV:=.v (.string ⟨⟨l⟩⟩)
def D0 (n:Nat):AV:=.v (.int .i64 (n:Int))
theorem wrap_nat {n:Nat} (h:n ≤ 1000000000):IntKind.i64.wrap (n:Int)=(n:Int):=by
 rw [← aY]
 have:in64 (n:Int)=true:=Nat.ble_eq_true_of_le (by omega)
 unfold aD
 rw [this]
theorem Jg {i j:Nat} (h:i + j ≤ 1000000000):IntKind.i64.wrap ((i:Int) + (j:Int))=((i + j:Nat):Int):=by
 rw [← wrap_nat h]; push_cast; rfl
theorem Ka {i:Nat} (h:i + 1 ≤ 1000000000):IntKind.i64.wrap ((i:Int) + 1)=((i + 1:Nat):Int):=Jg (j:=1) h
theorem W1 (S:St) (l:List UInt8):Hp Tryz.prog S 9 (.v (.string ⟨⟨l⟩⟩))=some l.length:=by
 have h:Tryz.prog.underlying 9=some .string:=rfl
 simp only [Hp,h]; rfl
theorem idx9 (l:List UInt8) (i:Nat) (h:i < l.length):Ke Tryz.prog 9 (.v (.string ⟨⟨l⟩⟩)) (.v (.int .i64 (i:Int)))=some (Lo l[i]):=by
 have hu:Tryz.prog.underlying 9=some .string:=rfl
 have h0:(0:Int) ≤ (i:Int):=by omega
 simp only [Ke,hu,if_pos h0,Int.toNat_natCast,List.getElem?_eq_getElem h]; rfl
def groundX (P:Program) (G:Gl) (f:T AV) (S:St) (o:Oper):OR:=ground P G f S o
def notO (r:OR) (S:St) (x:Option AV):OR:=match x with
 | some (.v (.bool b))=>.val (.v (.bool (!b))) S
 | _=>r
theorem Co (f:T AV) (S:St) (dst:Option Tmp) (k:Tmp) (ty:TypeId) (pos:String) (af:Array Edge) (gd:Option (Nat × Bool)) :
  ground Tryz.prog gR f S { dst:=dst,op:=.unOp .not 4 (.tmp k),type:=ty,pos:=pos,after:=af,guard:=gd }=notO (groundX Tryz.prog gR f S { dst:=dst,op:=.unOp .not 4 (.tmp k),type:=ty,pos:=pos,after:=af,guard:=gd }) S (f.get k):=by
 unfold notO
 split
 ·rename_i b h
  have hg:Dm gR f (.tmp k)=some (.bool b):=by unfold Dm; simp only [Ba,h]; rfl
  unfold ground
  simp only [Op.operands,List.all_cons,List.all_nil,hg,Option.isSome_some,Bool.and_self,Aa]
  have e:execOp (fun x=>(Dm gR f x).getD undef) { dst:=dst,op:=.unOp .not 4 (.tmp k),type:=ty,pos:=pos,after:=af,guard:=gd }=execOp (fun _=>.bool b) { dst:=dst,op:=.unOp .not 4 (.tmp k),type:=ty,pos:=pos,after:=af,guard:=gd }:=by
   simp only [execOp,hg,Ae]
  rw [e]
  cases b <;> rfl
 ·rfl
theorem Cx (r:OR) (S:St) (b:Bool):notO r S (some (.v (.bool b)))=.val (.v (.bool (!b))) S:=rfl
def cnt (p:UInt8 → Bool):List UInt8 → Nat
 | []=>0
 | b :: r=>if p b then cnt p r + 1 else 0
theorem Vu (p:UInt8 → Bool):∀ l,cnt p l ≤ l.length
 | []=>Nat.le_refl _
 | b :: r=>by
  unfold cnt
  split
  ·have:=Vu p r; simp; omega
  ·simp
noncomputable def R3:Code:=match Tryz.f96.body with
 | some (.seq _ (.seq (.block _ (.loop c)) _))=>c
 | _=>.skip
structure Test (k:FuncId) (p:UInt8 → Bool):Prop where
 run:∀ b S,WC E1 k [Lo b] S (fun r=>r=.ret (.v (.bool (p b))) S)
 fn:(E1.F k).isSome=true
set_option maxHeartbeats 4000000 in
theorem Z3 {k:FuncId} {p:UInt8 → Bool} (hp:Test k p) (l:List UInt8) (hl:l.length ≤ 100000) (S:St):∀ (m i:Nat) (t:T AV),i + m=l.length → t.get 0=some (Bp l) → t.get 1=some (D0 i) → t.get 2=some (.fn (.func k) [] []) →
  WX E1 21 (.loop R3) ⟨t,[]⟩ S (fun r=>∃ t',r=.out (.exit 0) ⟨t',[]⟩ S ∧ t'.get 1=some (D0 (i + cnt p (l.drop i))))
 | 0,i,t,hi,h0,h1,h2=>by
  refine Fe (El ?_)
  have hlt:¬ ((i:Int) < (l.length:Int)):=by omega
  have hd:l.drop i=[]:=List.drop_eq_nil_of_le (by omega)
  simp only [Bp,D0] at h0 h1 ⊢
  simp only [B8,Cf,Br,A6,Bl,Bq,Bt,Dk,Be,Cq,B4,B1,A7,Ct,A9,A8,Cr,A5,Bc,Ba,A0,Bo,ofOpt,Bb,B9,Fb,Bv,Dd,Dl,Nat.reduceLT,Nat.reduceEqDiff,Aa,Ab,Ac,Af,Ag,Ah,Ai,Am,Aq,Ar,Av,R3,Tryz.f96,h0,h1,h2,W1,hlt]
  exact ⟨_,rfl,by simp only [A0,Nat.reduceEqDiff,Ab,h1,hd,cnt,Nat.add_zero]⟩
 | m + 1,i,t,hi,h0,h1,h2=>by
  refine Fe (El ?_)
  have hil:i < l.length:=by omega
  have hlt:((i:Int) < (l.length:Int)):=by omega
  have hd:l.drop i=l[i] :: l.drop (i + 1):=List.drop_eq_getElem_cons hil
  obtain ⟨fn,hfn⟩:=Option.isSome_iff_exists.1 hp.fn
  have hx:=idx9 l i hil
  have hw:=Ka (i:=i) (by omega)
  simp only [Bp,D0] at h0 h1 ⊢
  simp only [A6,Bl,A7,A9,Bd,A8,A5,Bc,Ba,A0,Bo,B5,ofOpt,B9,Bv,Dd,Nat.reduceLT,Nat.reduceEqDiff,Aa,Ab,Ac,Af,Ag,Ah,Ai,Aj,Ak,Al,Am,Ap,R3,Tryz.f96,h0,h1,h2,W1,hlt,hx,hfn]
  refine WC.mono (hp.run l[i] S) ?_
  rintro _ rfl
  cases hb:p l[i]
  ·simp only [B8,Cf,Br,A6,Bq,Bt,Dk,Be,Cq,B4,B1,A7,A9,A8,Bk,Cr,A5,Bc,Ba,A0,ofOpt,Bb,B9,Bv,Dl,Nat.reduceLT,Nat.reduceEqDiff,Aa,Ab,Ac,Am,h1]
   refine ⟨_,rfl,?_⟩
   have e:cnt p (l.drop i)=0:=by rw [hd]; unfold cnt; rw [hb]; rfl
   simp only [A0,Nat.reduceEqDiff,Ab,h1,e,Nat.add_zero]
  ·simp only [B8,Cf,Br,A6,Bq,Bt,Dk,Be,Cq,B4,B1,A7,A9,A8,Bk,Cw,A5,Bc,Ba,A0,ofOpt,Bb,B9,Bv,Dl,Nat.reduceLT,Nat.reduceEqDiff,Aa,Ab,Ac,Am,h1,hw]
   have e:cnt p (l.drop i)=cnt p (l.drop (i + 1)) + 1:=by rw [hd,cnt,hb]; rfl
   refine WX.mono (Z3 hp l hl S m (i + 1) _ (by omega) ?_ ?_ ?_) ?_
   ·simp only [A0,Nat.reduceEqDiff,Ab,h0]; rfl
   ·simp only [A0,Nat.reduceEqDiff,Aa]; rfl
   ·simp only [A0,Nat.reduceEqDiff,Ab,h2]
   ·rintro r ⟨t',rfl,h⟩
    refine ⟨t',rfl,?_⟩
    rw [h,e]
    show some (D0 _)=some (D0 _)
    congr 2; omega
set_option maxHeartbeats 4000000 in
theorem Xt {k:FuncId} {p:UInt8 → Bool} (hp:Test k p) (l:List UInt8) (hl:l.length ≤ 100000) (i:Nat) (hi:i ≤ l.length) (S:St):WC E1 96 [Bp l,D0 i,.fn (.func k) [] []] S (fun r=>r=.ret (D0 (i + cnt p (l.drop i))) S):=by
 refine Dx Tryz.f96 (by kernel_rfl) (by kernel_rfl) (by kernel_rfl) (show (_:Nat) ≤ _ from by show (_:Nat) ≤ _; simp [Tryz.f96]) ?_
 have key:=fun t h0 h1 h2=>Z3 hp l hl S (l.length - i) i t (by omega) h0 h1 h2
 unfold R3 at key
 simp only [Tryz.f96] at key
 simp only [A6,Bl,Bt,D5,Be,B1,A7,A9,A8,A5,Bc,Ba,Cc,ofOpt,Bb,Nat.reduceLT,Nat.reduceAdd,Ac,Ae,Tryz.f96]
 refine WX.mono (key _ ?_ ?_ ?_) ?_
 ·simp only [A0,A1,Nat.reduceEqDiff,Aa,Ab]
 ·simp only [A0,A1,Nat.reduceEqDiff,Aa,Ab]
 ·simp only [A0,A1,Nat.reduceEqDiff,Aa,Ab]
 ·rintro r ⟨t',rfl,h⟩
  simp only [A6,Bl,Bw,Be,Cq,Cp,B1,A7,A9,A8,A5,Bc,Ba,A0,ofOpt,Bg,By,Bf,Cl,Nat.reduceLT,Nat.reduceEqDiff,Aa,Ab,Ad,h]
theorem blankT:Test 97 Ei:=⟨blank_w,by kernel_rfl⟩
theorem notEndT:Test 98 Lt:=⟨notEnd_w,by kernel_rfl⟩
theorem digitT:Test 101 D1:=⟨nW,by kernel_rfl⟩
theorem wordBT:Test 131 Eu:=⟨wordB_w,by kernel_rfl⟩
end Go.Ax
