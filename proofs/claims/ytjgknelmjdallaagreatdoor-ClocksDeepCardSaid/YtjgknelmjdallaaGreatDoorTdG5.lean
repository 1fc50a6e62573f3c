/- P -/
import Derived.Test.YtjgknelmjdallaaGreatDoorTdG4
set_option linter.unusedVariables false
set_option linter.unusedSimpArgs false
noncomputable section
namespace Go.Ax
open Go.RowKit
def eqS:Value → Value → Bool
 | .bool a,.bool b=>a == b
 | .int j a,.int k b=>decide (j=k) && a == b
 | .string a,.string b=>a == b
 | .float j a,.float k b=>decide (j=k) && a == b
 | .nilFunc,.nilFunc=>true
 | .nilIface,.nilIface=>true
 | .slice (some a) 0 0,.slice (some b) 0 0=>decide (a=b)
 | _,_=>false
theorem eqS_eq {x y:Value} (h:eqS x y=true):x=y:=by
 unfold eqS at h
 split at h
 ·have:=eq_of_beq h; subst this; rfl
 ·simp at h; obtain ⟨rfl,rfl⟩:=h; rfl
 ·rw [iT h]
 ·simp at h; obtain ⟨rfl,rfl⟩:=h; rfl
 ·rfl
 ·rfl
 ·rw [of_decide_eq_true h]
 ·cases h
mutual
def Gj:AV → AV → Bool
 | .v x,.v y=>eqS x y
 | .nilp,.nilp=>true
 | .ptr i o,.ptr j p=>i == j && o == p
 | .ep a,.ep b=>Mo a b
 | .nils,.nils=>true
 | .sl t o s a,.sl t' o' s' b=>t == t' && o == o' && s == s' && Mo a b
 | .nilm,.nilm=>true
 | .map i,.map j=>i == j
 | .fn f a b,.fn g c d=>decide (f=g) && Mo a c && Mo b d
 | .iface t a,.iface u b=>t == u && Gj a b
 | .agg a,.agg b=>Mo a b
 | .tup a,.tup b=>Mo a b
 | .bs i o n s,.bs j p m t=>i == j && o == p && n == m && s == t
 | _,_=>false
def Mo:List AV → List AV → Bool
 | [],[]=>true
 | a :: as,b :: bs=>Gj a b && Mo as bs
 | _,_=>false
end
mutual
theorem beqA_eq:∀ (a b:AV),Gj a b=true → a=b
 | .v x,b,h=>by
  cases b <;> simp only [Gj] at h <;> first | (cases h; done) | rw [eqS_eq h]
 | .nilp,b,h=>by cases b <;> simp only [Gj] at h <;> first | (cases h; done) | rfl
 | .nils,b,h=>by cases b <;> simp only [Gj] at h <;> first | (cases h; done) | rfl
 | .nilm,b,h=>by cases b <;> simp only [Gj] at h <;> first | (cases h; done) | rfl
 | .ptr i o,b,h=>by
  cases b <;> simp only [Gj] at h <;> first | (cases h; done) | (simp at h; obtain ⟨rfl,rfl⟩:=h; rfl)
 | .map i,b,h=>by
  cases b <;> simp only [Gj] at h <;> first | (cases h; done) | (simp at h; subst h; rfl)
 | .ep a,b,h=>by
  cases b <;> simp only [Gj] at h <;> first | (cases h; done) | rw [Wu a _ h]
 | .sl t o s a,b,h=>by
  cases b <;> simp only [Gj] at h <;> first | (cases h; done) | (simp only [Bool.and_eq_true,beq_iff_eq] at h; obtain ⟨⟨⟨rfl,rfl⟩,rfl⟩,h⟩:=h; rw [Wu a _ h])
 | .fn f a c,b,h=>by
  cases b <;> simp only [Gj] at h <;> first | (cases h; done) | (simp only [Bool.and_eq_true,decide_eq_true_eq] at h; obtain ⟨⟨rfl,h1⟩,h2⟩:=h; rw [Wu a _ h1,Wu c _ h2])
 | .iface t a,b,h=>by
  cases b <;> simp only [Gj] at h <;> first | (cases h; done) | (simp only [Bool.and_eq_true,beq_iff_eq] at h; obtain ⟨rfl,h⟩:=h; rw [beqA_eq a _ h])
 | .agg a,b,h=>by
  cases b <;> simp only [Gj] at h <;> first | (cases h; done) | rw [Wu a _ h]
 | .tup a,b,h=>by
  cases b <;> simp only [Gj] at h <;> first | (cases h; done) | rw [Wu a _ h]
 | .bs i o n s,b,h=>by
  cases b <;> simp only [Gj] at h <;> first | (cases h; done) | (simp only [Bool.and_eq_true,beq_iff_eq] at h; obtain ⟨⟨⟨rfl,rfl⟩,rfl⟩,rfl⟩:=h; rfl)
theorem Wu:∀ (a b:List AV),Mo a b=true → a=b
 | [],b,h=>by cases b with
  | nil=>rfl
  | cons=>simp [Mo] at h
 | a :: as,b,h=>by
  cases b with
  | nil=>simp [Mo] at h
  | cons b bs =>
   simp only [Mo,Bool.and_eq_true] at h
   rw [beqA_eq a b h.1,Wu as bs h.2]
end
section
variable {E:Env} {f f':T AV} {S:St} {o:Oper}
theorem Oi {α β:Type} {g h:α → Option β}:∀ {l:List α},(∀ x ∈ l,g x=h x) → B5 g l=B5 h l
 | [],_=>rfl
 | x :: r,H=>by
  unfold B5
  rw [H x (List.mem_cons_self ..),Oi fun y hy=>H y (List.mem_cons_of_mem _ hy)]
theorem V8 {G:Gl}:∀ {l:List (Nat × Operand)},(∀ p ∈ l,Ba G f p.2=Ba G f' p.2) → Bz G f l=Bz G f' l
 | [],_=>rfl
 | (i,x) :: r,H=>by
  unfold Bz
  rw [H (i,x) (List.mem_cons_self ..),V8 fun y hy=>H y (List.mem_cons_of_mem _ hy)]
theorem ground_congr {P:Program} {G:Gl} (hs:Op.noSel o.op=true) (H:∀ x ∈ o.op.operands,Ba G f x=Ba G f' x):ground P G f S o=ground P G f' S o:=by
 have hg:∀ x ∈ o.op.operands,Dp G f x=Dp G f' x:=fun x hx=>by unfold Dp; rw [H x hx]
 have h1:o.op.operands.toList.all (fun x=>(Dp G f x).isSome)=o.op.operands.toList.all (fun x=>(Dp G f' x).isSome):=by
  rw [Bool.eq_iff_iff,List.all_eq_true,List.all_eq_true]
  constructor <;> intro h x hx
  ·rw [← hg x (by simpa using hx)]; exact h x hx
  ·rw [hg x (by simpa using hx)]; exact h x hx
 have h2:execOp (fun x=>(Dp G f x).getD undef) o=execOp (fun x=>(Dp G f' x).getD undef) o :=
  execOp_congr o (fun cs b e=>by rw [e] at hs; cases hs) (fun x hx=>by show (Dp G f x).getD undef=(Dp G f' x).getD undef; rw [hg x hx])
 unfold ground
 rw [h1,h2]
theorem kD (H:∀ x ∈ o.op.operands,Ba E.G f x=Ba E.G f' x):Bc E f S o=Bc E f' S o:=by
 have hg:Op.noSel o.op=true → ground E.P E.G f S o=ground E.P E.G f' S o:=fun hs=>ground_congr hs H
 obtain ⟨dst,op,ty,pos,after,guard⟩:=o
 cases op
 case slice t x lo hi mx =>
  have h1:∀ y ∈ lo.toList,Ba E.G f y=Ba E.G f' y:=fun y hy=>H y (by simp [Op.operands]; simp at hy; simp [hy])
  have h2:∀ y ∈ hi.toList,Ba E.G f y=Ba E.G f' y:=fun y hy=>H y (by simp [Op.operands]; simp at hy; simp [hy])
  have hx:=H x (by simp [Op.operands])
  have hg:=hg rfl
  cases mx with
  | none=>simp only [Bc,hx,Oi h1,Oi h2,hg]
  | some m =>
   have hm:=H m (by simp [Op.operands])
   simp only [Bc,lI]
   cases lo with
   | some l=>rfl
   | none =>
    cases hi with
    | none=>rfl
    | some h=>simp only [hx,hm,h2 h (by simp)]
 case binOp op t x y u =>
  have hx:=H x (by simp [Op.operands])
  have hy:=H y (by simp [Op.operands])
  have hg:=hg rfl
  simp only [Bc,hx,hy,Mb,hg]
 case build t ps=>simp only [Bc]; rw [V8 fun p hp=>H p.2 (by simp [Op.operands]; exact ⟨p.1,by simpa using hp⟩)]
 case buildSlice t n ps=>simp only [Bc]; rw [V8 fun p hp=>H p.2 (by simp [Op.operands]; exact ⟨p.1,by simpa using hp⟩)]
 case makeFunc fn a b =>
  simp only [Bc]
  rw [Oi fun x hx=>H x (by simp [Op.operands]; exact .inl (by simpa using hx)),Oi fun x hx=>H x (by simp [Op.operands]; exact .inr (by simpa using hx))]
 case makeMap t r=>cases r <;> rfl
 case call c =>
  have hargs:∀ x ∈ c.args.toList,Ba E.G f x=Ba E.G f' x:=fun x hx=>H x (by simp [Op.operands,Call.operands]; exact .inr (by simpa using hx))
  have hg:=hg rfl
  simp only [Bc,Bm]
  cases hc:c.callee with
  | value fo =>
   have hfo:=H fo (by simp [Op.operands,Call.operands,hc])
   simp only [hfo,Oi hargs]
  | invoke r m=>rfl
  | builtin b =>
   cases b <;> simp only [hg]
   ·cases hl:c.args.toList with
    | nil=>rfl
    | cons x r =>
     rw [hl] at hargs
     cases r with
     | nil=>rfl
     | cons y r2 =>
      cases r2 with
      | nil =>
       generalize c.argTypes.toList=ts
       rcases ts with _ | ⟨t,_ | ⟨u,_ | ⟨v,vs⟩⟩⟩ <;> first | rfl | simp only [hargs x (by simp),hargs y (by simp)]
      | cons=>rfl
   ·cases hl:c.args.toList with
    | nil=>rfl
    | cons x r =>
     rw [hl] at hargs
     cases r with
     | nil=>rfl
     | cons y r2 =>
      cases r2 with
      | nil =>
       generalize c.argTypes.toList=ts
       rcases ts with _ | ⟨t,_ | ⟨u,_ | ⟨v,vs⟩⟩⟩ <;> first | rfl | simp only [hargs x (by simp),hargs y (by simp)]
      | cons=>rfl
   ·cases hl:c.args.toList with
    | nil=>rfl
    | cons x r =>
     rw [hl] at hargs
     cases r with
     | nil =>
      generalize c.argTypes.toList=ts
      rcases ts with _ | ⟨t,_ | ⟨u,us⟩⟩ <;> first | rfl | simp only [hargs x (by simp)]
     | cons=>rfl
 case defer c =>
  have hargs:∀ x ∈ c.args.toList,Ba E.G f x=Ba E.G f' x:=fun x hx=>H x (by simp [Op.operands,Call.operands]; exact .inr (by simpa using hx))
  simp only [Bc,Ke]
  cases hc:c.callee with
  | value fo =>
   have hfo:=H fo (by simp [Op.operands,Call.operands,hc])
   simp only [hfo,Oi hargs]
  | invoke r m=>rfl
  | builtin b=>rfl
 all_goals first
  | (simp only [Bc]; done)
  | (
   simp only [Bc]
   simp only [Op.operands] at H
   first
   | (rw [H _ (by simp)]; done)
   | (
    have hg:=hg rfl
    simp only [H _ (List.mem_toArray.2 (List.mem_cons_self ..)),hg]; done)
   | (simp only [H _ (List.mem_toArray.2 (List.mem_cons_self ..)),H _ (List.mem_toArray.2 (List.mem_cons_of_mem _ (List.mem_cons_self ..)))]; done)
   | (
    have hg:=hg rfl
    simp only [H _ (List.mem_toArray.2 (List.mem_cons_self ..)),H _ (List.mem_toArray.2 (List.mem_cons_of_mem _ (List.mem_cons_self ..))),hg]; done)
   | (simp only [H _ (List.mem_toArray.2 (List.mem_cons_self ..)),H _ (List.mem_toArray.2 (List.mem_cons_of_mem _ (List.mem_cons_self ..))),H _ (List.mem_toArray.2 (List.mem_cons_of_mem _ (List.mem_cons_of_mem _ (List.mem_cons_self ..))))]; done)
   | skip)
end
end Go.Ax
noncomputable section
namespace Go.Ax
open Go.RowKit
def Iq (o:Oper):Bool:=match o.op with
 | .move _=>true
 | .assign _=>true
 | .pick _ _ _=>true
 | .build _ _=>true
 | .buildSlice _ _ _=>true
 | .load _ _=>true
 | .nilCheck _=>true
 | .makeInterface _ _=>true
 | .makeFunc _ _ _=>true
 | .slice _ _ _ _ _=>true
 | .fieldAddr _ _ _=>true
 | .field _ _ _=>true
 | .indexAddr _ _ _=>true
 | .lookup _ _ _ _=>true
 | .typeAssert _ _ _ _=>true
 | .extract _ _=>true
 | .binOp _ _ _ _ _=>true
 | .unOp _ _ _=>true
 | .convert _ _ _=>true
 | .index _ _ _=>true
 | .call c=>match c.callee with
  | .builtin .append=>false
  | .builtin .copy=>false
  | .builtin _=>true
  | _=>false
 | _=>false
section
variable {E:Env} {callK:Fl} {n:Nat} {ops:Array Oper}
theorem ofOpt_same (S:St) (x:Option AV):(∃ a,ofOpt S x=.val a S) ∨ ofOpt S x=.fail:=by
 cases x with
 | none=>exact .inr rfl
 | some a=>exact .inl ⟨a,rfl⟩
theorem vQ {f:T AV} {S:St} {o:Oper} (h:Iq o=true):(∃ a,Bc E f S o=.val a S) ∨ Bc E f S o=.fail:=by
 have hg:(∃ a,ground E.P E.G f S o=.val a S) ∨ ground E.P E.G f S o=.fail:=Za
 have hp:=ofOpt_same S
 obtain ⟨dst,op,ty,pos,after,guard⟩:=o
 cases op
 case slice t x lo hi mx =>
  cases mx with
  | none =>
   simp only [Bc]
   split
   ·split <;> first | exact hp _ | exact .inr rfl
   ·split <;> first | exact hp _ | exact .inr rfl
   ·split <;> first | exact hp _ | exact .inr rfl
   ·exact .inr rfl
  | some m=>exact hp _
 case call c =>
  simp only [Iq] at h
  simp only [Bc,Bm]
  cases hc:c.callee with
  | value fo=>rw [hc] at h; cases h
  | invoke r m=>rw [hc] at h; cases h
  | builtin b =>
   rw [hc] at h
   cases b <;> first | (cases h; done) | exact hg | skip
   dsimp only
   split
   ·split
    ·split
     ·exact .inl ⟨_,rfl⟩
     ·exact .inr rfl
    ·exact .inr rfl
   ·exact .inr rfl
 case binOp op t x y yt =>
  simp only [Bc]
  split
  ·split
   ·split <;> first | exact .inl ⟨_,rfl⟩ | exact .inr rfl
   ·split
    ·exact .inl ⟨_,rfl⟩
    ·exact eqOr_ne
  ·exact .inr rfl
 case index t x i =>
  simp only [Bc]
  split
  ·split
   ·exact .inl ⟨_,rfl⟩
   ·exact hg
  ·exact .inr rfl
 case convert s d x =>
  simp only [Bc]
  split
  ·split
   ·exact .inl ⟨_,rfl⟩
   ·exact hg
  ·exact .inr rfl
 all_goals first
  | (simp [Iq] at h; done)
  | exact hp _
  | exact hg
  | (simp only [Bc]; split <;> first | exact hp _ | exact .inr rfl | exact .inl ⟨_,rfl⟩)
inductive SR1 where
 | val (a:AV) (S:St)
 | dfr (d:Dfr) (S:St)
 | pan (a:AV) (S:St)
 | fail
def Rq (E:Env) (callK:Fl) (ops:Array Oper) (o:Oper) (f:T AV) (S:St):SR1 :=
 match A5 ops o f with
 | none=>.fail
 | some false=>.val (.tup []) S
 | some true=>match Bc E f S o with
  | .val a S'=>.val a S'
  | .skip S'=>.val (.tup []) S'
  | .enter k args S'=>match callK k args S' with
   | .ret a S''=>.val a S''
   | .pan a S''=>.pan a S''
   | .fail=>.fail
  | .dfr fn caps args S'=>.dfr ⟨fn,caps,args⟩ S'
  | .pan a S'=>.pan a S'
  | .fail=>.fail
def okD (n:Nat):Option Tmp → Bool
 | none=>true
 | some d=>decide (d < n)
def Kr (f:Fr) (dst:Option Tmp) (a:AV):Fr:=match dst with
 | none=>f
 | some d=>{ f with tmps:=f.tmps.set d (some a) }
theorem Rz (n:Nat) (f:Fr) (dst:Option Tmp) (a:AV) (S:St):Pr n f dst a S=if okD n dst then .out .normal (Kr f dst a) S else .fail:=by
 cases dst with
 | none=>rfl
 | some d=>simp [Pr,okD,Kr]
theorem Uh (o:Oper) (f:Fr) (S:St):Gv E callK n ops o f S=match Rq E callK ops o f.tmps S with
  | .val a S'=>Pr n f o.dst a S'
  | .dfr d S'=>Pr n { f with dfr:=d :: f.dfr } o.dst (.tup []) S'
  | .pan a S'=>.out (.pan a) f S'
  | .fail=>.fail:=by
 unfold Gv Rq
 cases A5 ops o f.tmps with
 | none=>rfl
 | some b =>
  cases b with
  | false=>rfl
  | true =>
   simp only
   cases Bc E f.tmps S o with
   | enter k args S'=>simp only; cases callK k args S' <;> rfl
   | _=>rfl
def fG (ops:Array Oper) (o:Oper) (f f':T AV):Prop:=∀ t ∈ o.looksAt ops,f.get t=f'.get t
theorem sP {o:Oper} {f f':T AV} (h:fG ops o f f'):∀ x ∈ o.op.operands,Ba E.G f x=Ba E.G f' x:=fun x hx=>by
 cases x with
 | tmp t=>exact h t (by unfold Oper.looksAt; exact List.mem_append_left _ (List.mem_filterMap.2 ⟨.tmp t,by simpa using hx,rfl⟩))
 | _=>rfl
theorem fF {o:Oper} {f f':T AV} (h:fG ops o f f'):A5 ops o f=A5 ops o f':=by
 unfold A5
 split
 ·rfl
 ·rename_i j want hg
  split
  ·rfl
  ·rename_i d hd
   rw [h d (by unfold Oper.looksAt; refine List.mem_append_right _ ?_; rw [hg]; simp [hd])]
theorem jG {o:Oper} {f f':T AV} {S:St} (h:fG ops o f f'):Rq E callK ops o f S=Rq E callK ops o f' S:=by
 unfold Rq
 rw [fF h,kD (sP h)]
theorem xY {o:Oper} {f:Fr} {dst:Option Tmp} {a:AV} (h:∀ d,dst=some d → d ∉ o.looksAt ops):fG ops o (Kr f dst a).tmps f.tmps:=fun t ht=>by
 cases dst with
 | none=>rfl
 | some d =>
  show (f.tmps.set d (some a)).get t=_
  rw [T.get_set,if_neg (by intro e; subst e; exact h _ rfl ht)]
theorem putT_comm (f:Fr) {x y:Option Tmp} (h:∀ d,x=some d → y ≠ some d) (a b:AV):Kr (Kr f x a) y b=Kr (Kr f y b) x a:=by
 cases x with
 | none=>rfl
 | some d =>
  cases y with
  | none=>rfl
  | some e =>
   have hne:e ≠ d:=fun he=>h d rfl (he ▸ rfl)
   show ({ f with tmps:=(f.tmps.set d (some a)).set e (some b) }:Fr)={ f with tmps:=(f.tmps.set e (some b)).set d (some a) }
   rw [T.set_comm f.tmps hne]
def Em (E:Env) (ops:Array Oper) (o:Oper) (f:T AV) (S:St):Option AV :=
 match A5 ops o f with
 | none=>none
 | some false=>some (.tup [])
 | some true=>match Bc E f S o with
  | .val a _=>some a
  | _=>none
theorem Q1 {o:Oper} {f f':T AV} {S:St} (h:fG ops o f f'):Em E ops o f S=Em E ops o f' S:=by
 unfold Em
 rw [fF h,kD (sP h)]
theorem Sh {o:Oper} (hl:Iq o=true) (f:T AV) (S:St):Rq E callK ops o f S=match Em E ops o f S with
  | some a=>.val a S
  | none=>.fail:=by
 unfold Rq Em
 cases A5 ops o f with
 | none=>rfl
 | some b =>
  cases b with
  | false=>rfl
  | true =>
   rcases vQ (E:=E) (f:=f) (S:=S) hl with ⟨a,h⟩ | h <;> rw [h]
def O0 (o:Oper):Bool:=match o.op with
 | .move _=>true
 | .assign _=>true
 | .pick _ _ _=>true
 | .build _ _=>true
 | .buildSlice _ _ _=>true
 | .nilCheck _=>true
 | .makeInterface _ _=>true
 | .makeFunc _ _ _=>true
 | .slice _ _ _ _ _=>true
 | .fieldAddr _ _ _=>true
 | .field _ _ _=>true
 | .indexAddr _ _ _=>true
 | .typeAssert _ _ _ _=>true
 | .extract _ _=>true
 | .binOp _ _ _ _ _=>true
 | .unOp _ _ _=>true
 | .convert _ _ _=>true
 | .index _ _ _=>true
 | _=>false
def OR.look:OR → Option AV
 | .val a _=>some a
 | _=>none
theorem P4 (S:St) (x:Option AV):(ofOpt S x).look=x:=by cases x <;> rfl
theorem ground_look {f:T AV} {S S':St} {o:Oper}:(ground E.P E.G f S o).look=(ground E.P E.G f S' o).look:=by
 unfold ground
 split
 ·split
  ·split <;> rfl
  ·rfl
 ·rfl
theorem pure_look {f:T AV} {S S':St} {o:Oper} (h:O0 o=true):(Bc E f S o).look=(Bc E f S' o).look:=by
 have hg:=ground_look (E:=E) (f:=f) (S:=S) (S':=S') (o:=o)
 obtain ⟨dst,op,ty,pos,after,guard⟩:=o
 cases op
 case slice t x lo hi mx =>
  cases mx with
  | none =>
   simp only [Bc]
   split
   ·split
    ·simp only [P4]
    ·rfl
   ·split
    ·simp only [P4]
    ·rfl
   ·split
    ·simp only [P4]
    ·rfl
   ·rfl
  | some m=>simp only [Bc,P4]
 case binOp op t x y yt =>
  simp only [Bc]
  split
  ·split
   ·split <;> rfl
   ·split
    ·rfl
    ·unfold Mb; split
     ·rfl
     ·exact hg
  ·rfl
 case index t x i =>
  simp only [Bc]
  split
  ·split
   ·rfl
   ·exact hg
  ·rfl
 case convert s d x =>
  simp only [Bc]
  split
  ·split
   ·rfl
   ·exact hg
  ·rfl
 all_goals first
  | (simp [O0] at h; done)
  | (simp only [Bc,P4]; done)
  | exact hg
  | (simp only [Bc]; split <;> first | (simp only [P4]; done) | rfl)
theorem oY {f:T AV} {S S':St} {o:Oper} (h:O0 o=true):Em E ops o f S=Em E ops o f S':=by
 have e:∀ S,Em E ops o f S=match A5 ops o f with | none=>none | some false=>some (.tup []) | some true=>(Bc E f S o).look:=fun S=>by
  unfold Em
  cases A5 ops o f with
  | none=>rfl
  | some b =>
   cases b with
   | false=>rfl
   | true=>dsimp only; cases Bc E f S o <;> rfl
 rw [e S,e S',pure_look h]
structure Look where
 idx:Nat
 o:Oper
 f:T AV
 a:AV
def Km (E:Env) (ops:Array Oper) (m:Nat) (S:St) (l:Look):Bool:=m.testBit l.idx || O0 l.o || (match Em E ops l.o l.f S with
 | some b=>Gj l.a b
 | none=>false)
def Kd (E:Env) (callK:Fl) (n:Nat) (ops:Array Oper) (ms:List Nat) (fb:Fr):List Nat → Fr → St → List Look → O
 | [],f,S,_=>.out .normal f S
 | i :: r,f,S,L=>match ops[i]? with
  | none=>.fail
  | some o=>if Iq o then (match Em E ops o f.tmps S with
    | some a=>if okD n o.dst then Kd E callK n ops ms fb r (Kr f o.dst a) S (⟨i,o,f.tmps,a⟩ :: L) else .fail
    | none=>.fail)
   else (match Rq E callK ops o f.tmps S with
    | .val a S'=>if okD n o.dst && L.all (Km E ops (ms.getD i 0) S') then Kd E callK n ops ms fb r (Kr f o.dst a) S' L else .fail
    | .pan a S'=>.out (.pan a) fb S'
    | _=>.fail)
def LSub (E:Env) (ops:Array Oper) (L' L:List Look):Prop:=∀ l' ∈ L',∃ l ∈ L,l.idx=l'.idx ∧ l.a=l'.a ∧ O0 l.o=O0 l'.o ∧ ∀ S,Em E ops l.o l.f S=Em E ops l'.o l'.f S
theorem LSub.all {L' L:List Look} (h:LSub E ops L' L) {m:Nat} {S:St} (ha:L.all (Km E ops m S)=true):L'.all (Km E ops m S)=true:=by
 rw [List.all_eq_true] at ha ⊢
 intro l' hl'
 obtain ⟨l,hl,h1,h2,h4,h3⟩:=h l' hl'
 have:=ha l hl
 unfold Km at this ⊢
 rw [← h1,← h2,← h3,← h4]
 exact this
theorem LSub.cons {L' L:List Look} (h:LSub E ops L' L) (l:Look):LSub E ops (l :: L') (l :: L):=fun l' hl'=>by
 rcases List.mem_cons.1 hl' with rfl | hl'
 ·exact ⟨_,List.mem_cons_self ..,rfl,rfl,rfl,fun _=>rfl⟩
 ·obtain ⟨x,hx,r⟩:=h l' hl'; exact ⟨x,List.mem_cons_of_mem _ hx,r⟩
theorem eC {ms:List Nat} {fb:Fr}:∀ (rem:List Nat) (f:Fr) (S:St) (L L':List Look) (R:O),Kd E callK n ops ms fb rem f S L=R → R ≠ .fail → LSub E ops L' L → Kd E callK n ops ms fb rem f S L' = R
 | [],f,S,L,L',R,h,hne,hs=>h
 | i :: r,f,S,L,L',R,h,hne,hs=>by
  unfold Kd at h ⊢
  split at h
  ·exact absurd h.symm hne
  ·rename_i o ho
   split at h
   ·rename_i hl
    rw [if_pos hl]
    split at h
    ·rename_i a hv
     split at h
     ·rename_i hd
      rw [if_pos hd]
      exact eC r _ S _ _ R h hne (hs.cons _)
     ·exact absurd h.symm hne
    ·exact absurd h.symm hne
   ·rename_i hl
    rw [if_neg hl]
    split at h
    ·rename_i a S' hv
     split at h
     ·rename_i hd
      have hd2:(okD n o.dst && L'.all (Km E ops (ms.getD i 0) S'))=true:=by
       rw [Bool.and_eq_true] at hd ⊢
       exact ⟨hd.1,hs.all hd.2⟩
      rw [if_pos hd2]
      exact eC r _ S' L L' R h hne hs
     ·exact absurd h.symm hne
    ·rename_i a S' hv
     exact h
    ·exact absurd h.symm hne
def okP (ops:Array Oper) (ms:List Nat) (j i:Nat):Bool:=(ms.getD i 0).testBit j || (match ops[j]?,ops[i]? with
 | some a,some b=>Iq a && a.apart ops b
 | _,_=>false)
def Gn (ops:Array Oper) (ms:List Nat):List Nat → Bool
 | []=>true
 | j :: r=>r.all (fun i=>okP ops ms j i) && Gn ops ms r
def Early (E:Env) (callK:Fl) (n:Nat) (ops:Array Oper) (ms:List Nat) (fb:Fr) (rem:List Nat) (f:Fr) (S:St) (L:List Look) (i:Nat) (o:Oper) (R:O):Prop :=
 (Iq o=true ∧ ∃ a,Em E ops o f.tmps S=some a ∧ okD n o.dst=true ∧ Kd E callK n ops ms fb (rem.erase i) (Kr f o.dst a) S L=R) ∨
 (Iq o=false ∧ ((∃ a S',Rq E callK ops o f.tmps S=.val a S' ∧ okD n o.dst=true ∧ L.all (Km E ops (ms.getD i 0) S')=true ∧ Kd E callK n ops ms fb (rem.erase i) (Kr f o.dst a) S' L=R) ∨
  ∃ a S',Rq E callK ops o f.tmps S=.pan a S' ∧ R=.out (.pan a) fb S'))
theorem bubble {ms:List Nat} {fb:Fr} {i:Nat} {o:Oper} (ho:ops[i]? = some o):∀ (rem:List Nat) (f:Fr) (S:St) (L:List Look) (R:O),i ∈ rem → (∀ j ∈ rem,j ≠ i → (ms.getD i 0).testBit j=false) → Gn ops ms rem=true →
  Kd E callK n ops ms fb rem f S L=R → R ≠ .fail → Early E callK n ops ms fb rem f S L i o R
 | [],f,S,L,R,hi,_,_,_,_=>by cases hi
 | j :: r,f,S,L,R,hi,hfree,hp,h,hne=>by
  by_cases hji:j=i
  ·subst hji
   unfold Kd at h
   rw [ho] at h
   simp only at h
   unfold Early
   rw [List.erase_cons_head]
   split at h
   ·rename_i hl
    refine .inl ⟨hl,?_⟩
    split at h
    ·rename_i a hv
     split at h
     ·rename_i hd
      exact ⟨a,hv,hd,eC r _ S _ _ R h hne (fun l hl=>⟨l,List.mem_cons_of_mem _ hl,rfl,rfl,rfl,fun _=>rfl⟩)⟩
     ·exact absurd h.symm hne
    ·exact absurd h.symm hne
   ·rename_i hl
    refine .inr ⟨by simpa using hl,?_⟩
    split at h
    ·rename_i a S' hv
     split at h
     ·rename_i hd
      rw [Bool.and_eq_true] at hd
      exact .inl ⟨a,S',hv,hd.1,hd.2,h⟩
     ·exact absurd h.symm hne
    ·rename_i a S' hv
     exact .inr ⟨a,S',hv,h.symm⟩
    ·exact absurd h.symm hne
  ·have hir:i ∈ r:=(List.mem_cons.1 hi).resolve_left (fun e=>hji e.symm)
   have hbit:=hfree j (List.mem_cons_self ..) hji
   unfold Gn at hp
   rw [Bool.and_eq_true] at hp
   have hok:=List.all_eq_true.1 hp.1 i hir
   unfold okP at hok
   rw [hbit,Bool.false_or] at hok
   unfold Kd at h
   split at h
   ·exact absurd h.symm hne
   ·rename_i oj hoj
    rw [hoj,ho] at hok
    simp only [Bool.and_eq_true] at hok
    obtain ⟨hlj,hap⟩:=hok
    obtain ⟨p1,p2,p3⟩:=Oper.apart_spec hap
    rw [if_pos hlj] at h
    split at h
    ·rename_i aj hvj
     split at h
     ·rename_i hdj
      have ih:=bubble ho r (Kr f oj.dst aj) S (⟨j,oj,f.tmps,aj⟩ :: L) R hir (fun k hk hki=>hfree k (List.mem_cons_of_mem _ hk) hki) hp.2 h hne
      have hag:fG ops o (Kr f oj.dst aj).tmps f.tmps:=xY p1
      have hera:(j :: r).erase i=j :: r.erase i:=by rw [List.erase_cons_tail (by simpa using hji)]
      have hswap:∀ (a:AV),Kr (Kr f oj.dst aj) o.dst a=Kr (Kr f o.dst a) oj.dst aj:=fun a=>putT_comm f p2 aj a
      have back:∀ (a:AV) (S':St) (L0:List Look),Em E ops oj f.tmps S' = some aj → Kd E callK n ops ms fb (r.erase i) (Kr (Kr f oj.dst aj) o.dst a) S' (⟨j,oj,f.tmps,aj⟩ :: L0)=R → Kd E callK n ops ms fb (j :: r.erase i) (Kr f o.dst a) S' L0=R:=fun a S' L0 hv hd=>by
       have hagj:fG ops oj (Kr f o.dst a).tmps f.tmps:=xY p3
       unfold Kd
       rw [hoj]
       simp only
       rw [if_pos hlj,Q1 hagj,hv]
       simp only
       rw [if_pos hdj,← hswap]
       refine eC _ _ _ _ _ R hd hne (fun l hl=>?_)
       rcases List.mem_cons.1 hl with rfl | hl
       ·exact ⟨_,List.mem_cons_self ..,rfl,rfl,rfl,fun S=>(Q1 hagj).symm⟩
       ·exact ⟨l,List.mem_cons_of_mem _ hl,rfl,rfl,rfl,fun _=>rfl⟩
      unfold Early at ih ⊢
      rw [hera]
      rcases ih with ⟨hl,a,hv,hd,hrun⟩ | ⟨hl,⟨a,S',hv,hd,hall,hrun⟩ | ⟨a,S',hv,hR⟩⟩
      ·rw [Q1 hag] at hv
       exact .inl ⟨hl,a,hv,hd,back a S L hvj hrun⟩
      ·rw [jG hag] at hv
       rw [List.all_cons,Bool.and_eq_true] at hall
       have hre:=hall.1
       unfold Km at hre
       simp only [hbit,Bool.false_or] at hre
       cases hpu:O0 oj with
       | true=>exact .inr ⟨hl,.inl ⟨a,S',hv,hd,hall.2,back a S' L ((oY hpu).trans hvj) hrun⟩⟩
       | false =>
       simp only [hpu,Bool.false_or] at hre
       split at hre
       ·rename_i b hb
        have hb2:Em E ops oj f.tmps S' = some aj:=by rw [beqA_eq _ _ hre]; exact hb
        exact .inr ⟨hl,.inl ⟨a,S',hv,hd,hall.2,back a S' L hb2 hrun⟩⟩
       ·cases hre
      ·rw [jG hag] at hv
       exact .inr ⟨hl,.inr ⟨a,S',hv,hR⟩⟩
     ·exact absurd h.symm hne
    ·exact absurd h.symm hne
end
end Go.Ax
noncomputable section
namespace Go.Ax
open Go.RowKit
def zO (ms:List Nat) (o:Oper):Nat:=o.after.toList.foldl (fun m e=>if Region.binds .any e then m ||| (2 ^ e.on ||| ms.getD e.on 0) else m) 0
def bm:List Oper → List Nat → List Nat
 | [],acc=>acc
 | o :: r,acc=>bm r (acc ++ [zO acc o])
def gM:List Nat → Bool
 | []=>true
 | x :: r=>!r.contains x && gM r
theorem Pg:∀ {l:List Nat},gM l=true → l.Nodup
 | [],_=>List.nodup_nil
 | x :: r,h=>by
  unfold gM at h
  simp at h
  exact List.nodup_cons.2 ⟨h.1,Pg h.2⟩
def Oa (ms:List Nat):List Oper → Nat → Bool
 | [],_=>true
 | o :: r,i=>(ms.getD i 0 == zO ms o) && (o.after.toList.all fun e=>!Region.binds .any e || decide (e.on < i)) && Oa ms r (i + 1)
theorem Wg {ms:List Nat}:∀ {l:List Oper} {i:Nat},Oa ms l i=true → ∀ {k:Nat} {o:Oper},l[k]? = some o → ms.getD (i + k) 0=zO ms o ∧ ∀ e ∈ o.after,Region.binds .any e=true → e.on < i + k
 | [],_,_,k,o,hk=>by simp at hk
 | x :: r,i,h,k,o,hk=>by
  unfold Oa at h
  simp only [Bool.and_eq_true,beq_iff_eq] at h
  cases k with
  | zero =>
   simp at hk; subst hk
   refine ⟨h.1.1,fun e he hb=>?_⟩
   have:=List.all_eq_true.1 h.1.2 e (by simpa using he)
   simpa [hb] using this
  | succ k =>
   have:=Wg (l:=r) h.2 (k:=k) (by simpa using hk)
   rwa [show i + 1 + k=i + (k + 1) by omega] at this
theorem foldl_or (b:Edge → Bool) (g:Edge → Nat) (j:Nat):∀ (l:List Edge) (m:Nat),(l.foldl (fun m e=>if b e then m ||| g e else m) m).testBit j=true → m.testBit j=true ∨ ∃ e ∈ l,b e=true ∧ (g e).testBit j=true
 | [],m,h=>.inl h
 | e :: r,m,h=>by
  rw [List.foldl_cons] at h
  rcases foldl_or b g j r _ h with h1 | ⟨e',he',h2⟩
  ·split at h1
   ·rename_i hb
    rw [Nat.testBit_or,Bool.or_eq_true] at h1
    rcases h1 with h1 | h1
    ·exact .inl h1
    ·exact .inr ⟨e,List.mem_cons_self ..,hb,h1⟩
   ·exact .inl h1
  ·exact .inr ⟨e',List.mem_cons_of_mem _ he',h2⟩
section
variable {E:Env} {callK:Fl} {n:Nat} {ops:Array Oper} {ms:List Nat}
def Dn (ops:Array Oper) (listed:Array Bool):Prop:=∀ i o,ops[i]? = some o → listed.getD i false=true → ∀ e ∈ o.after,Region.binds .any e=true → listed.getD e.on false=true
theorem Qj (hm:Oa ms ops.toList 0=true) {listed:Array Bool} (hd:Dn ops listed) {j:Nat}:∀ (k:Nat) (o:Oper),ops[k]? = some o → (∀ e ∈ o.after,Region.binds .any e=true → listed.getD e.on false=true) → (ms.getD k 0).testBit j=true → listed.getD j false=true:=by
 intro k
 induction k using Nat.strongRecOn with
 | _ k ih =>
  intro o ho hp hb
  have hk:=Wg hm (k:=k) (o:=o) (by simpa using ho)
  rw [Nat.zero_add] at hk
  rw [hk.1] at hb
  unfold zO at hb
  rcases foldl_or _ _ j _ _ hb with h0 | ⟨e,he,hbd,hbit⟩
  ·simp at h0
  ·have hem:e ∈ o.after:=by simpa using he
   have hl:=hp e hem hbd
   rw [Nat.testBit_or,Bool.or_eq_true] at hbit
   rcases hbit with hbit | hbit
   ·rw [Nat.testBit_two_pow] at hbit
    have:e.on=j:=by simpa using hbit
    rw [← this]; exact hl
   ·have hlt:=hk.2 e hem hbd
    cases hoe:ops[e.on]? with
    | none =>
     have hlt2:¬ e.on < ops.size:=fun h=>by rw [Array.getElem?_eq_getElem h] at hoe; cases hoe
     have hkl:k < ops.size:=(Array.getElem?_eq_some_iff.1 ho).1
     omega
    | some oe=>exact ih e.on hlt oe hoe (hd e.on oe hoe hl) hbit
structure FbOk (ops:Array Oper) (fb f:Fr):Prop where
 sub:∀ t a,fb.tmps.get t=some a → f.tmps.get t=some a
 dfr:fb.dfr=f.dfr
 non:∀ (i:Nat) o d,ops[i]? = some o → o.dst=some d → fb.tmps.get d=none
theorem FbOk.put {fb f:Fr} (h:FbOk ops fb f) {i:Nat} {o:Oper} (ho:ops[i]? = some o) (a:AV):FbOk ops fb (Kr f o.dst a):=by
 unfold Kr
 split
 ·exact h
 ·rename_i d hd
  refine ⟨fun t x hx=>?_,h.dfr,h.non⟩
  show (f.tmps.set d (some a)).get t=some x
  rw [T.get_set,if_neg (fun e=>by subst e; rw [h.non i o _ ho hd] at hx; cases hx)]
  exact h.sub t x hx
theorem FbOk.ar {fb f:Fr} (h:FbOk ops fb f) {γ:Gh} {w:World} {act:Act} (ha:AR γ w n f act):AR γ w n fb act :=
 ⟨fun t a hta=>ha.tmps t a (h.sub t a hta),ha.size,by rw [h.dfr]; exact ha.dfr⟩
theorem Vc (listed:Array Bool) (i j:Nat) (b:Bool) (hi:i < listed.size):(listed.setIfInBounds i true).getD j b=if i=j then true else listed.getD j b:=by
 rw [Array.getD_eq_getD_getElem?,Array.getD_eq_getD_getElem?]
 by_cases h:i=j
 ·subst h; simp [hi]
 ·rw [Array.getElem?_setIfInBounds_ne h,if_neg h]
theorem Nl {listed:Array Bool} {i:Nat} (hi:i < listed.size) (b c:Bool):listed.getD i b=listed.getD i c:=by
 simp [Array.getD_eq_getD_getElem?,hi]
theorem wV {base:Nat} {w0:World} {Q:Exit → Act → World → Prop} (hE:E.Ok) (hC:Pq E base w0 callK) (hm:Oa ms ops.toList 0=true) {fb:Fr}:∀ (fuel:Nat) (rem:List Nat) (listed:Array Bool) (f:Fr) (S:St) (γ:Gh) (w:World) (act:Act),
  listed.size=ops.size → (∀ i,i ∈ rem ↔ i < ops.size ∧ listed.getD i true=false) → rem.Nodup → rem.length ≤ fuel → Dn ops listed → Gn ops ms rem=true → SR base w0 γ S w → AR γ w n f act → GR γ w E.G → FbOk ops fb f →
  N8 base w0 n γ S w Q (Kd E callK n ops ms fb rem f S []) → wpAny E.P .any ops Q fuel listed act w:=by
 intro fuel
 induction fuel with
 | zero =>
  intro rem listed f S γ w act hsz hrem hnd hlen hdn hp hS ha hg hfb hH
  have hr0:rem=[]:=List.eq_nil_of_length_eq_zero (by omega)
  subst hr0
  refine ⟨?_,hH γ act w hS (.refl _ _ _) ha⟩
  rw [List.eq_nil_iff_forall_not_mem]
  intro i hi
  obtain ⟨h1,o,ho,_⟩:=mem_ready.1 hi
  exact absurd ((hrem i).2 ⟨(Array.getElem?_eq_some_iff.1 ho).1,h1⟩) (by simp)
 | succ fuel ih =>
  intro rem listed f S γ w act hsz hrem hnd hlen hdn hp hS ha hg hfb hH
  have inb:∀ {i},i ∈ rem → i < listed.size:=fun {i} hi=>by rw [hsz]; exact ((hrem i).1 hi).1
  refine ⟨fun hready=>?_,fun i hi=>?_⟩
  ·
   have hr0:rem=[]:=by
    rw [List.eq_nil_iff_forall_not_mem]
    intro i
    induction i using Nat.strongRecOn with
    | _ i ihi =>
     intro hi
     obtain ⟨hlt,hun⟩:=(hrem i).1 hi
     have hoi:ops[i]? = some ops[i]:=Array.getElem?_eq_getElem hlt
     have hk:=Wg hm (k:=i) (o:=ops[i]) (by simp [hlt])
     have:i ∈ Region.ready .any ops listed:=mem_ready.2 ⟨hun,ops[i],hoi,fun e he hb=>by
      have hel:=hk.2 e he hb
      rw [Nat.zero_add] at hel
      have hnr:=ihi e.on hel
      rw [hrem] at hnr
      have hes:e.on < listed.size:=by omega
      cases hx:listed.getD e.on false with
      | true=>rfl
      | false=>exact absurd ⟨by omega,(Nl hes true false).trans hx⟩ hnr⟩
     rw [hready] at this
     cases this
   subst hr0
   exact hH γ act w hS (.refl _ _ _) ha
  ·obtain ⟨hun,o,ho,hpre⟩:=mem_ready.1 hi
   have hil:i < ops.size:=(Array.getElem?_eq_some_iff.1 ho).1
   have hir:i ∈ rem:=(hrem i).2 ⟨hil,hun⟩
   have hne:Kd E callK n ops ms fb rem f S [] ≠ .fail:=fun e=>by rw [e] at hH; exact hH
   have hfree:∀ j ∈ rem,j ≠ i → (ms.getD i 0).testBit j=false:=fun j hj _=>by
    cases hb:(ms.getD i 0).testBit j with
    | false=>rfl
    | true =>
     have h1:=Qj hm hdn i o ho hpre hb
     have h2:=((hrem j).1 hj).2
     rw [Nl (inb hj) true false,h1] at h2
     cases h2
   have hb:=bubble ho rem f S [] _ hir hfree hp rfl hne
   have next:∀ (f':Fr) (S':St) (γ':Gh) (act':Act) (w':World),SR base w0 γ' S' w' → Ext γ S w γ' S' w' → AR γ' w' n f' act' → FbOk ops fb f' → Kd E callK n ops ms fb (rem.erase i) f' S' []=Kd E callK n ops ms fb rem f S [] →
     wpAny E.P .any ops Q fuel (listed.setIfInBounds i true) act' w':=fun f' S' γ' act' w' k1 k2 k3 k4 k5=>by
    refine ih (rem.erase i) (listed.setIfInBounds i true) f' S' γ' w' act' (by simpa using hsz) (fun j=>?_) (hnd.erase i) (by rw [List.length_erase_of_mem hir]; omega) (fun j oj hoj hlj e he hbd=>?_) ?_ k1 k3 (hg.mono k2.ev) k4 (by rw [k5]; exact hH.later k2)
    ·rw [hnd.mem_erase_iff,hrem j,Vc _ _ _ _ (by omega)]
     by_cases hji:i=j
     ·subst hji; simp
     ·rw [if_neg hji]; exact ⟨fun h=>h.2,fun h=>⟨fun e=>hji e.symm,h⟩⟩
    ·rw [Vc _ _ _ _ (by omega)] at hlj ⊢
     split
     ·rfl
     ·split at hlj
      ·rename_i hij
       subst hij
       rw [ho] at hoj; injection hoj with hoj; subst hoj
       exact hpre e he hbd
      ·exact hdn j oj hoj hlj e he hbd
    ·have sub:∀ (l:List Nat),Gn ops ms l=true → Gn ops ms (l.erase i)=true:=by
      intro l
      induction l with
      | nil=>intro h; exact h
      | cons x r ihl =>
       intro h
       unfold Gn at h
       rw [Bool.and_eq_true] at h
       by_cases hx:x=i
       ·subst hx; rw [List.erase_cons_head]; exact h.2
       ·rw [List.erase_cons_tail (by simpa using hx)]
        unfold Gn
        rw [Bool.and_eq_true]
        exact ⟨List.all_eq_true.2 fun y hy=>List.all_eq_true.1 h.1 y (List.mem_of_mem_erase hy),ihl h.2⟩
     exact sub rem hp
   have hst:=Uh (E:=E) (callK:=callK) (n:=n) (ops:=ops) o f S
   have key:N8 base w0 n γ S w (fun x a w=>match x with | .normal=>wpAny E.P .any ops Q fuel (listed.setIfInBounds i true) a w | x=>Q x a w) (Gv E callK n ops o f S):=by
    rw [hst]
    rcases hb with ⟨hl,a,hv,hd,hrun⟩ | ⟨hl,⟨a,S',hv,hd,hall,hrun⟩ | ⟨a,S',hv,hR⟩⟩
    ·rw [Sh hl,hv]
     simp only
     rw [Rz,if_pos hd]
     exact fun γ' act' w' k1 k2 k3=>next _ _ γ' act' w' k1 k2 k3 (hfb.put ho a) hrun
    ·rw [hv]
     simp only
     rw [Rz,if_pos hd]
     exact fun γ' act' w' k1 k2 k3=>next _ _ γ' act' w' k1 k2 k3 (hfb.put ho a) hrun
    ·rw [hv]
     intro γ' act' w' k1 k2 k3 v hvr
     rw [hR] at hH
     exact hH γ' act' w' k1 k2 (hfb.ar k3) v hvr
   have:=Td hE hC hS ha hg key
   unfold wpOp
   rw [ho]
   simp only
   split
   ·rename_i hw; rw [if_pos hw] at this; exact .inl this
   ·rename_i hw; rw [if_neg hw] at this; exact this
def Rb (ops:Array Oper) (ms:List Nat):Nat → List Nat → Nat → List Nat
 | 0,_,_=>[]
 | k + 1,rem,done =>
  match rem.find? fun i=>(match ops[i]? with | some o=>Iq o | none=>false) && (ms.getD i 0 &&& done == ms.getD i 0) with
  | some i=>i :: Rb ops ms k (rem.erase i) (done ||| 2 ^ i)
  | none=>match rem.find? fun i=>ms.getD i 0 &&& done == ms.getD i 0 with
   | some i=>i :: Rb ops ms k (rem.erase i) (done ||| 2 ^ i)
   | none=>[]
def Vx (ops:Array Oper) (ms order:List Nat):Bool :=
 Oa ms ops.toList 0 && gM order && (order.all fun i=>decide (i < ops.size)) && ((List.range ops.size).all fun i=>order.contains i) && Gn ops ms order
def I3:List Oper → T AV → T AV
 | [],f=>f
 | o :: r,f=>I3 r (match o.dst with | some d=>f.set d none | none=>f)
theorem Oo:∀ (l:List Oper) (f:T AV) (t:Nat) (a:AV),(I3 l f).get t=some a → f.get t=some a ∧ ∀ o ∈ l,o.dst ≠ some t
 | [],f,t,a,h=>⟨h,fun _ h=>by cases h⟩
 | o :: r,f,t,a,h=>by
  unfold I3 at h
  obtain ⟨h1,h2⟩:=Oo r _ t a h
  split at h1
  ·rename_i d hd
   rw [T.get_set] at h1
   split at h1
   ·cases h1
   ·rename_i hne
    refine ⟨h1,fun o' ho'=>?_⟩
    rcases List.mem_cons.1 ho' with rfl | ho'
    ·rw [hd]; intro e; injection e with e; exact hne e.symm
    ·exact h2 o' ho'
  ·rename_i hd
   refine ⟨h1,fun o' ho'=>?_⟩
   rcases List.mem_cons.1 ho' with rfl | ho'
   ·rw [hd]; intro e; cases e
   ·exact h2 o' ho'
def Jn (E:Env):N9:=fun callK n ops f S =>
 let ms:=bm ops.toList []
 let order:=Rb ops ms ops.size (List.range ops.size) 0
 if Vx ops ms order then Kd E callK n ops ms ⟨I3 ops.toList f.tmps,f.dfr⟩ order f S [] else .fail
theorem Ye (hE:E.Ok) (hmix:E.P.follows .mixedOrders=true):Wy E (Jn E):=by
 intro base w0 Q callK hC n id ops γ S w f act hS ha hg hH
 unfold Jn at hH
 simp only at hH
 split at hH
 ·rename_i hst
  generalize bm ops.toList []=ms at hst hH
  generalize Rb ops ms ops.size (List.range ops.size) 0=order at hst hH
  unfold Vx at hst
  simp only [Bool.and_eq_true] at hst
  obtain ⟨⟨⟨⟨s1,s2⟩,s3⟩,s4⟩,s5⟩:=hst
  obtain ⟨d1,d2⟩:=hS.drew
  have hx:Ext γ S w γ S w.drew:=Ext.of_same (w:=w) (w':=w.drew) rfl d2
  refine wp_region_any hmix ?_
  have hlist:∀ (i:Nat) (b:Bool),i < ops.size → (Array.replicate ops.size false).getD i b=false:=fun i b h=>by simp [h]
  refine wV hE hC s1 (fb:=⟨I3 ops.toList f.tmps,f.dfr⟩) ops.size order (Array.replicate ops.size false) f S γ w.drew act (by simp) (fun i=>⟨fun hi=>?_,fun hi=>?_⟩) (Pg s2) ?_ (fun i o ho hl=>?_) s5 d1 (ha.mono d2) (hg.mono d2) ⟨fun t a h=>(Oo _ _ t a h).1,rfl,fun i o d ho hd=>?_⟩ (hH.later hx)
  ·have:=List.all_eq_true.1 s3 i hi
   have hlt:i < ops.size:=by simpa using this
   exact ⟨hlt,hlist i true hlt⟩
  ·have:=List.all_eq_true.1 s4 i (List.mem_range.2 hi.1)
   simpa using this
  ·have hsub:order ⊆ List.range ops.size:=fun i hi=>by
    have:=List.all_eq_true.1 s3 i hi
    exact List.mem_range.2 (by simpa using this)
   have:=(Pg s2).length_le_of_subset hsub
   simpa using this
  ·have hlt:=(Array.getElem?_eq_some_iff.1 ho).1
   rw [hlist i false hlt] at hl
   cases hl
  ·cases hx:(I3 ops.toList f.tmps).get d with
   | none=>rfl
   | some a =>
    have:=(Oo _ _ d a hx).2 o (by
     have:=Array.mem_of_getElem? ho
     simpa using this)
    exact absurd hd this
 ·exact hH.elim
end
end Go.Ax
noncomputable section
namespace Go.Ax
open Go.RowKit
def isDfr (o:Oper):Bool:=match o.op with
 | .defer _=>true
 | _=>false
def Q8 (fb:Fr) (r:O):O:=O.rec (motive:=fun _=>O) (fun e f S=>Ex.rec (motive:=fun _=>O) (.out .normal f S) (fun i=>.out (.exit i) f S) (.out .ret f S) (fun a=>.out (.pan a) fb S) e) .fail r
theorem exec1_dfr {E:Env} {f:T AV} {S S':St} {o:Oper} {fn:Fn} {caps args:List AV} (h:Bc E f S o=.dfr fn caps args S'):isDfr o=true:=by
 have key:∀ (x:OR),x=.dfr fn caps args S' → (∃ a,x=ofOpt S a) ∨ x=.fail ∨ (∃ a,x=ofOptS a) ∨ x=ground E.P E.G f S o ∨ (∃ a S,x=.val a S) ∨ (∃ S,x=.skip S) ∨ (∃ k l S,x=.enter k l S) ∨ (∃ a S,x=.pan a S) → False:=by
  rintro x hx (⟨a,rfl⟩ | rfl | ⟨a,rfl⟩ | rfl | ⟨a,S2,rfl⟩ | ⟨S2,rfl⟩ | ⟨k,l,S2,rfl⟩ | ⟨a,S2,rfl⟩)
  ·cases a <;> cases hx
  ·cases hx
  ·cases a with
   | none=>cases hx
   | some q=>cases q; cases hx
  ·rcases Za (P:=E.P) (G:=E.G) (f:=f) (S:=S) (o:=o) with ⟨a,ha⟩ | ha <;> rw [ha] at hx <;> cases hx
  ·cases hx
  ·cases hx
  ·cases hx
  ·cases hx
 unfold isDfr
 split
 ·rfl
 ·rename_i hne
  exfalso
  refine key _ h ?_
  unfold Bc
  split
  all_goals first
   | (rename_i c ho; exact absurd ho (hne c))
   | skip
  all_goals try unfold Bm
  all_goals repeat' split
  all_goals try unfold Mb
  all_goals repeat' split
  all_goals first
   | exact .inl ⟨_,rfl⟩
   | exact .inr (.inl rfl)
   | exact .inr (.inr (.inl ⟨_,rfl⟩))
   | exact .inr (.inr (.inr (.inl rfl)))
   | exact .inr (.inr (.inr (.inr (.inl ⟨_,_,rfl⟩))))
   | exact .inr (.inr (.inr (.inr (.inr (.inl ⟨_,rfl⟩)))))
   | exact .inr (.inr (.inr (.inr (.inr (.inr (.inl ⟨_,_,_,rfl⟩))))))
   | exact .inr (.inr (.inr (.inr (.inr (.inr (.inr ⟨_,_,rfl⟩))))))
inductive RS where
 | op (o:Oper)
 | re (o:Oper)
def okAp (ops:Array Oper) (o:Oper) (p:Oper):Bool:=match o.dst with
 | none=>true
 | some d=>!(p.looksAt ops).contains d && !(p.dst == some d)
def selfAp (ops:Array Oper) (o:Oper):Bool:=match o.dst with
 | none=>false
 | some d=>!(o.looksAt ops).contains d
def keepsD (ops:Array Oper) (o:Oper) (lk:List (Nat × Oper)):Bool:=lk.all fun p=>O0 p.2 || okAp ops o p.2
def sQ (m:Nat) (lk:List (Nat × Oper)):List (Nat × Oper):=lk.filter fun p=>!m.testBit p.1 && !O0 p.2
def Rg (ops:Array Oper) (ms:List Nat):List Nat → List (Nat × Oper) → Option (List RS)
 | [],_=>some []
 | i :: r,lk=>match ops[i]? with
  | none=>none
  | some o=>if keepsD ops o lk then
    if Iq o then (if O0 o || selfAp ops o then (match Rg ops ms r ((i,o) :: lk) with
     | some l=>some (.op o :: l)
     | none=>none) else none)
    else if isDfr o then none else (match Rg ops ms r lk with
     | some l=>some (.op o :: ((sQ (ms.getD i 0) lk).map fun p=>RS.re p.2) ++ l)
     | none=>none)
   else none
def D6 (E:Env) (ops:Array Oper) (o:Oper) (f:T AV) (S:St):Bool:=match Em E ops o f S,o.dst with
 | some a,some d=>match f.get d with
  | some b=>Gj b a
  | none=>false
 | _,_=>false
def F1 (E:Env) (ck:Fl) (n:Nat) (ops:Array Oper):List RS → Fr → St → O
 | [],f,S=>.out .normal f S
 | .op o :: r,f,S=>match Gv E ck n ops o f S with
  | .out .normal f' S'=>F1 E ck n ops r f' S'
  | r=>r
 | .re o :: r,f,S=>if D6 E ops o f.tmps S then F1 E ck n ops r f S else .fail
theorem runRS_re {E:Env} {ck:Fl} {n:Nat} {ops:Array Oper} (r:List RS) (f:Fr) (S:St):∀ (l:List (Nat × Oper)),F1 E ck n ops ((l.map fun p=>RS.re p.2) ++ r) f S=.fail ∨ ((∀ p ∈ l,D6 E ops p.2 f.tmps S=true) ∧ F1 E ck n ops ((l.map fun p=>RS.re p.2) ++ r) f S=F1 E ck n ops r f S)
 | []=>.inr ⟨fun _ h=>absurd h List.not_mem_nil,rfl⟩
 | p :: l=>by
  have e:∀ l f S,F1 E ck n ops (.re p.2 :: l) f S=if D6 E ops p.2 f.tmps S then F1 E ck n ops l f S else .fail:=fun _ _ _=>rfl
  rw [List.map_cons,List.cons_append,e]
  cases h:D6 E ops p.2 f.tmps S with
  | false=>exact .inl rfl
  | true =>
   rw [if_pos rfl]
   rcases runRS_re r f S l with h1 | ⟨h1,h2⟩
   ·exact .inl h1
   ·refine .inr ⟨fun q hq=>?_,h2⟩
    rcases List.mem_cons.1 hq with rfl | hq
    ·exact h
    ·exact h1 q hq
def Seen (ops:Array Oper) (f:T AV) (l:Look):Prop:=O0 l.o=true ∨ (fG ops l.o l.f f ∧ ∃ d,l.o.dst=some d ∧ f.get d=some l.a)
theorem Seen.put {ops:Array Oper} {f:Fr} {l:Look} (h:Seen ops f.tmps l) {o:Oper} (ho:O0 l.o=true ∨ okAp ops o l.o=true) (a:AV):Seen ops (Kr f o.dst a).tmps l:=by
 rcases h with h | ⟨h1,d,h2,h3⟩
 ·exact .inl h
 ·rcases ho with ho | ho
  ·exact .inl ho
  ·refine .inr ?_
   unfold okAp at ho
   cases hd:o.dst with
   | none=>exact ⟨h1,d,h2,h3⟩
   | some x =>
    rw [hd] at ho
    simp only [Bool.and_eq_true,Bool.not_eq_true'] at ho
    obtain ⟨k1,k2⟩:=ho
    refine ⟨fun t ht=>?_,d,h2,?_⟩
    ·show l.f.get t=(f.tmps.set x (some a)).get t
     rw [T.get_set,if_neg (fun e=>by subst e; rw [List.contains_eq_mem,decide_eq_false_iff_not] at k1; exact k1 ht)]
     exact h1 t ht
    ·show (f.tmps.set x (some a)).get d=some l.a
     rw [T.get_set,if_neg (fun e=>by subst e; rw [h2] at k2; simp at k2)]
     exact h3
theorem Ot {E:Env} {ck:Fl} {n:Nat} {ops:Array Oper} {ms:List Nat} {fb:Fr}:∀ (l:List Nat) (rs:List RS) (f:Fr) (S:St) (L:List Look),Rg ops ms l (L.map fun l=>(l.idx,l.o))=some rs → (∀ l ∈ L,Seen ops f.tmps l) → F1 E ck n ops rs f S=.fail ∨ Kd E ck n ops ms fb l f S L=Q8 fb (F1 E ck n ops rs f S)
 | [],rs,f,S,L,h,hL=>by
  injection h with h; subst h
  refine .inr ?_
  unfold Kd; rfl
 | i :: r,rs,f,S,L,h,hL=>by
  unfold Rg at h
  split at h
  ·cases h
  ·rename_i o ho
   split at h
   case isFalse=>cases h
   rename_i hk
   have hkeep:∀ l ∈ L,O0 l.o=true ∨ okAp ops o l.o=true:=fun l hl=>by
    have:=List.all_eq_true.1 hk (l.idx,l.o) (List.mem_map.2 ⟨l,hl,rfl⟩)
    simpa using this
   split at h
   ·rename_i hl
    split at h
    case isFalse=>cases h
    rename_i hself
    split at h
    case h_2=>cases h
    rename_i l2 hl2
    injection h with h; subst h
    unfold Kd F1
    rw [ho]
    simp only
    rw [if_pos hl,Uh,Sh hl]
    cases hv:Em E ops o f.tmps S with
    | none=>exact .inl rfl
    | some a =>
     simp only
     rw [Rz]
     cases hd:okD n o.dst with
     | false=>exact .inl rfl
     | true =>
      refine Ot r l2 (Kr f o.dst a) S (⟨i,o,f.tmps,a⟩ :: L) hl2 fun l hl=>?_
      rcases List.mem_cons.1 hl with rfl | hl
      ·rw [Bool.or_eq_true] at hself
       rcases hself with hself | hself
       ·exact .inl hself
       ·refine .inr ?_
        unfold selfAp at hself
        cases hd2:o.dst with
        | none=>rw [hd2] at hself; cases hself
        | some d =>
         rw [hd2] at hself
         refine ⟨fun t ht=>?_,d,rfl,?_⟩
         ·show f.tmps.get t=(f.tmps.set d (some a)).get t
          rw [T.get_set,if_neg (fun e=>by subst e; rw [Bool.not_eq_true',List.contains_eq_mem,decide_eq_false_iff_not] at hself; exact hself ht)]
         ·show (f.tmps.set d (some a)).get d=some a
          rw [T.get_set,if_pos rfl]
      ·exact (hL l hl).put (hkeep l hl) a
   ·rename_i hl
    split at h
    ·cases h
    rename_i hdf
    split at h
    case h_2=>cases h
    rename_i l2 hl2
    injection h with h; subst h
    have e1:∀ f S,F1 E ck n ops (.op o :: ((sQ (ms.getD i 0) (L.map fun l=>(l.idx,l.o))).map fun p=>RS.re p.2) ++ l2) f S=match Gv E ck n ops o f S with
     | .out .normal f' S'=>F1 E ck n ops (((sQ (ms.getD i 0) (L.map fun l=>(l.idx,l.o))).map fun p=>RS.re p.2) ++ l2) f' S'
     | r=>r:=fun _ _=>rfl
    rw [e1]
    unfold Kd
    rw [ho]
    simp only
    rw [if_neg hl,Uh]
    cases hs:Rq E ck ops o f.tmps S with
    | val a S' =>
     simp only
     rw [Rz]
     cases hd:okD n o.dst with
     | false=>exact .inl rfl
     | true =>
      rw [if_pos rfl]
      simp only
      have hseen:∀ l ∈ L,Seen ops (Kr f o.dst a).tmps l:=fun l hl=>(hL l hl).put (hkeep l hl) a
      rcases runRS_re (E:=E) (ck:=ck) (n:=n) (ops:=ops) l2 (Kr f o.dst a) S' (sQ (ms.getD i 0) (L.map fun l=>(l.idx,l.o))) with h1 | ⟨h1,h2⟩
      ·exact .inl h1
      ·rw [h2]
       have hall:L.all (Km E ops (ms.getD i 0) S')=true:=by
        rw [List.all_eq_true]
        intro l hl
        unfold Km
        cases hb:(ms.getD i 0).testBit l.idx with
        | true=>rfl
        | false =>
         cases hp:O0 l.o with
         | true=>rfl
         | false =>
          have hag:=h1 (l.idx,l.o) (by unfold sQ; rw [List.mem_filter]; exact ⟨List.mem_map.2 ⟨l,hl,rfl⟩,by simp only [hb,hp]; rfl⟩)
          rcases hseen l hl with h3 | ⟨h3,d,h4,h5⟩
          ·rw [hp] at h3; cases h3
          ·unfold D6 at hag
           rw [Q1 (S:=S') h3]
           simp only at hag
           split at hag
           ·rename_i a2 d2 hv hd2
            rw [h4] at hd2; injection hd2 with hd2; subst hd2
            rw [h5] at hag
            rw [hv]
            exact hag
           ·cases hag
       rw [hall,Bool.true_and,if_pos rfl]
       exact Ot r l2 (Kr f o.dst a) S' L hl2 hseen
    | dfr d S' =>
     exfalso
     unfold Rq at hs
     split at hs
     ·cases hs
     ·cases hs
     ·split at hs
      ·cases hs
      ·cases hs
      ·split at hs <;> cases hs
      ·rename_i he
       exact hdf (exec1_dfr he)
      ·cases hs
      ·cases hs
    | pan a S'=>exact .inr rfl
    | fail=>exact .inl rfl
theorem Ry {E:Env} {ck:Fl} {n:Nat} {ops:Array Oper}:∀ (l m:List RS) (f:Fr) (S:St),F1 E ck n ops (l ++ m) f S=match F1 E ck n ops l f S with
  | .out .normal f' S'=>F1 E ck n ops m f' S'
  | r=>r
 | [],m,f,S=>rfl
 | .op o :: r,m,f,S=>by
  have e:∀ l,F1 E ck n ops (.op o :: l) f S=match Gv E ck n ops o f S with
   | .out .normal f' S'=>F1 E ck n ops l f' S'
   | r=>r:=fun _=>rfl
  rw [List.cons_append,e,e]
  cases Gv E ck n ops o f S with
  | fail=>rfl
  | out e f' S'=>cases e <;> first | exact Ry r m f' S' | rfl
 | .re o :: r,m,f,S=>by
  have e:∀ l,F1 E ck n ops (.re o :: l) f S=if D6 E ops o f.tmps S then F1 E ck n ops l f S else .fail:=fun _=>rfl
  rw [List.cons_append,e,e]
  cases D6 E ops o f.tmps S with
  | false=>rfl
  | true=>exact Ry r m f S
end Go.Ax
