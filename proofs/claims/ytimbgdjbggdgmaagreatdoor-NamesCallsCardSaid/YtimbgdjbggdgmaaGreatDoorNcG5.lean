/- P -/
import Derived.Test.YtimbgdjbggdgmaaGreatDoorNcG4
set_option linter.unusedVariables false
set_option linter.unusedSimpArgs false
noncomputable section
namespace Go.Ax
open Go.RowKit
def eqS:Value→Value→Bool
 |.bool a,.bool b=>a == b
 |.int j a,.int k b=>decide (j=k) && a == b
 |.string a,.string b=>a == b
 |.float j a,.float k b=>decide (j=k) && a == b
 |.nilFunc,.nilFunc=>true
 |.nilIface,.nilIface=>true
 |.slice (some a) 0 0,.slice (some b) 0 0=>decide (a=b)
 |_,_=>false
theorem eqS_eq{x y:Value}(h:eqS x y=true):x=y:=by
 unfold eqS at h
 split at h
 ·have:=eq_of_beq h;subst this;rfl
 ·simp at h;obtain⟨rfl,rfl⟩:=h;rfl
 ·rw[mF h]
 ·simp at h;obtain⟨rfl,rfl⟩:=h;rfl
 ·rfl
 ·rfl
 ·rw[of_decide_eq_true h]
 ·cases h
theorem eqS_refl{x:Value}(h:Yg x=true):eqS x x=true:=by
 unfold Yg at h
 split at h <;> first | (cases h;done) |simp[eqS,Jx]
mutual
def D1:AV→AV→Bool
 |.v x,.v y=>eqS x y
 |.nilp,.nilp=>true
 |.ptr i o,.ptr j p=>i == j && o == p
 |.ep a,.ep b=>Gm a b
 |.nils,.nils=>true
 |.sl t o s a,.sl t' o' s' b=>t == t' && o == o' && s == s' && Gm a b
 |.nilm,.nilm=>true
 |.map i,.map j=>i == j
 |.fn f a b,.fn g c d=>decide (f=g) && Gm a c && Gm b d
 |.iface t a,.iface u b=>t == u && D1 a b
 |.agg a,.agg b=>Gm a b
 |.tup a,.tup b=>Gm a b
 |.bs i o n s,.bs j p m t=>i == j && o == p && n == m && s == t
 |_,_=>false
def Gm:List AV→List AV→Bool
 | [],[]=>true
 |a :: as,b :: bs=>D1 a b && Gm as bs
 |_,_=>false
end
mutual
theorem U1:∀(a b:AV),D1 a b=true→a=b
 |.v x,b,h=>by
  cases b <;> simp only[D1]at h <;> first | (cases h;done) |rw[eqS_eq h]
 |.nilp,b,h=>by cases b <;> simp only[D1]at h <;> first | (cases h;done) |rfl
 |.nils,b,h=>by cases b <;> simp only[D1]at h <;> first | (cases h;done) |rfl
 |.nilm,b,h=>by cases b <;> simp only[D1]at h <;> first | (cases h;done) |rfl
 |.ptr i o,b,h=>by
  cases b <;> simp only[D1]at h <;> first | (cases h;done) | (simp at h;obtain⟨rfl,rfl⟩:=h;rfl)
 |.map i,b,h=>by
  cases b <;> simp only[D1]at h <;> first | (cases h;done) | (simp at h;subst h;rfl)
 |.ep a,b,h=>by
  cases b <;> simp only[D1]at h <;> first | (cases h;done) |rw[Qb a _ h]
 |.sl t o s a,b,h=>by
  cases b <;> simp only[D1]at h <;> first | (cases h;done) | (simp only[Ja2,beq_iff_eq]at h;obtain⟨⟨⟨rfl,rfl⟩,rfl⟩,h⟩:=h;rw[Qb a _ h])
 |.fn f a c,b,h=>by
  cases b <;> simp only[D1]at h <;> first | (cases h;done) | (simp only[Ja2,decide_eq_true_eq]at h;obtain⟨⟨rfl,h1⟩,h2⟩:=h;rw[Qb a _ h1,Qb c _ h2])
 |.iface t a,b,h=>by
  cases b <;> simp only[D1]at h <;> first | (cases h;done) | (simp only[Ja2,beq_iff_eq]at h;obtain⟨rfl,h⟩:=h;rw[U1 a _ h])
 |.agg a,b,h=>by
  cases b <;> simp only[D1]at h <;> first | (cases h;done) |rw[Qb a _ h]
 |.tup a,b,h=>by
  cases b <;> simp only[D1]at h <;> first | (cases h;done) |rw[Qb a _ h]
 |.bs i o n s,b,h=>by
  cases b <;> simp only[D1]at h <;> first | (cases h;done) | (simp only[Ja2,beq_iff_eq]at h;obtain⟨⟨⟨rfl,rfl⟩,rfl⟩,rfl⟩:=h;rfl)
theorem Qb:∀(a b:List AV),Gm a b=true→a=b
 | [],b,h=>by cases b with
  |nil=>rfl
  |cons=>simp[Gm]at h
 |a :: as,b,h=>by
  cases b with
  |nil=>simp[Gm]at h
  |cons b bs =>
   simp only[Gm,Ja2]at h;rw[U1 a b h.1,Qb as bs h.2]
end
section
variable {E:Env} {f f':T AV} {S:St} {o:Oper}
theorem Lq{α β:Type}{g h:α→Option β}:∀{l:List α},(∀x∈l,g x=h x)→C9 g l=C9 h l
 | [],_=>rfl
 |x :: r,H=>by
  unfold C9;rw[H x (Jb1 ..),Lq fun y hy=>H y (Ja8 _ hy)]
theorem Rv{G:Gl}:∀{l:List (Nat × Operand)},(∀p∈l,A6 G f p.2=A6 G f' p.2)→C8 G f l=C8 G f' l
 | [],_=>rfl
 | (i,x) :: r,H=>by
  unfold C8;rw[H (i,x) (Jb1 ..),Rv fun y hy=>H y (Ja8 _ hy)]
theorem oR{P:Program}{G:Gl}(hs:Op.noSel o.op=true)(H:∀x∈o.op.operands,A6 G f x=A6 G f' x):ground P G f S o=ground P G f' S o:=by
 have hg:∀x∈o.op.operands,B8 G f x=B8 G f' x:=fun x hx=>by unfold B8;rw[H x hx]
 have h1:o.op.operands.toList.all (fun x=>(B8 G f x).isSome)=o.op.operands.toList.all (fun x=>(B8 G f' x).isSome):=by
  rw[Bool.eq_iff_iff,Jb6,Jb6]
  constructor <;> intro h x hx
  ·rw[← hg x (by simpa using hx)];exact h x hx
  ·rw[hg x (by simpa using hx)];exact h x hx
 have h2:execOp (fun x=>(B8 G f x).getD undef) o=execOp (fun x=>(B8 G f' x).getD undef) o :=
  execOp_congr o (fun cs b e=>by rw[e]at hs;cases hs) (fun x hx=>by show(B8 G f x).getD undef=(B8 G f' x).getD undef;rw[hg x hx])
 unfold ground;rw[h1,h2]
theorem Z6(H:∀x∈o.op.operands,A6 E.G f x=A6 E.G f' x):Bg E f S o=Bg E f' S o:=by
 have hg:Op.noSel o.op=true→ground E.P E.G f S o=ground E.P E.G f' S o:=fun hs=>oR hs H
 obtain⟨dst,op,ty,pos,after,guard⟩:=o;cases op
 case slice t x lo hi mx =>
  have h1:∀y∈lo.toList,A6 E.G f y=A6 E.G f' y:=fun y hy=>H y (by simp[Op.operands];simp at hy;simp[hy])
  have h2:∀y∈hi.toList,A6 E.G f y=A6 E.G f' y:=fun y hy=>H y (by simp[Op.operands];simp at hy;simp[hy])
  have hx:=H x (by simp[Op.operands])
  have hg:=hg rfl
  cases mx with
  |none=>simp only[Bg,hx,Lq h1,Lq h2,hg]
  |some m =>
   have hm:=H m (by simp[Op.operands])
   simp only[Bg,nJ]
   cases lo with
   |some l=>rfl
   |none =>
    cases hi with
    |none=>rfl
    |some h=>simp only[hx,hm,h2 h (by simp)]
 case binOp op t x y u =>
  have hx:=H x (by simp[Op.operands])
  have hy:=H y (by simp[Op.operands])
  have hg:=hg rfl;simp only[Bg,hx,hy,U7,hg]
 case build t ps=>simp only[Bg];rw[Rv fun p hp=>H p.2 (by simp[Op.operands];exact⟨p.1,by simpa using hp⟩)]
 case buildSlice t n ps=>simp only[Bg];rw[Rv fun p hp=>H p.2 (by simp[Op.operands];exact⟨p.1,by simpa using hp⟩)]
 case makeFunc fn a b =>
  simp only[Bg];rw[Lq fun x hx=>H x (by simp[Op.operands];exact .inl (by simpa using hx)),Lq fun x hx=>H x (by simp[Op.operands];exact .inr (by simpa using hx))]
 case makeMap t r=>cases r <;> rfl
 case call c =>
  have hargs:∀x∈c.args.toList,A6 E.G f x=A6 E.G f' x:=fun x hx=>H x (by simp[Op.operands,Call.operands];exact .inr (by simpa using hx))
  have hg:=hg rfl;simp only[Bg,Ct]
  cases hc:c.callee with
  |value fo =>
   have hfo:=H fo (by simp[Op.operands,Call.operands,hc])
   simp only[hfo,Lq hargs]
  |invoke r m=>rfl
  |builtin b =>
   cases b <;> simp only[hg]
   ·cases hl:c.args.toList with
    |nil=>rfl
    |cons x r =>
     rw[hl]at hargs
     cases r with
     |nil=>rfl
     |cons y r2 =>
      cases r2 with
      |nil =>
       generalize c.argTypes.toList=ts;rcases ts with _ | ⟨t,_ | ⟨u,_ | ⟨v,vs⟩⟩⟩ <;> first |rfl |simp only[hargs x (by simp),hargs y (by simp)]
      |cons=>rfl
   ·cases hl:c.args.toList with
    |nil=>rfl
    |cons x r =>
     rw[hl]at hargs
     cases r with
     |nil=>rfl
     |cons y r2 =>
      cases r2 with
      |nil =>
       generalize c.argTypes.toList=ts;rcases ts with _ | ⟨t,_ | ⟨u,_ | ⟨v,vs⟩⟩⟩ <;> first |rfl |simp only[hargs x (by simp),hargs y (by simp)]
      |cons=>rfl
   ·cases hl:c.args.toList with
    |nil=>rfl
    |cons x r =>
     rw[hl]at hargs
     cases r with
     |nil =>
      generalize c.argTypes.toList=ts;rcases ts with _ | ⟨t,_ | ⟨u,us⟩⟩ <;> first |rfl |simp only[hargs x (by simp)]
     |cons=>rfl
 case defer c =>
  have hargs:∀x∈c.args.toList,A6 E.G f x=A6 E.G f' x:=fun x hx=>H x (by simp[Op.operands,Call.operands];exact .inr (by simpa using hx))
  simp only[Bg,V7]
  cases hc:c.callee with
  |value fo =>
   have hfo:=H fo (by simp[Op.operands,Call.operands,hc])
   simp only[hfo,Lq hargs]
  |invoke r m=>rfl
  |builtin b=>rfl
 all_goals first
  | (simp only[Bg];done)
  | (
   simp only[Bg];simp only[Op.operands]at H
   first
   | (rw[H _ (by simp)];done)
   | (
    have hg:=hg rfl
    simp only[H _ (List.mem_toArray.2 (Jb1 ..)),hg];done)
   | (simp only[H _ (List.mem_toArray.2 (Jb1 ..)),H _ (List.mem_toArray.2 (Ja8 _ (Jb1 ..)))];done)
   | (
    have hg:=hg rfl
    simp only[H _ (List.mem_toArray.2 (Jb1 ..)),H _ (List.mem_toArray.2 (Ja8 _ (Jb1 ..))),hg];done)
   | (simp only[H _ (List.mem_toArray.2 (Jb1 ..)),H _ (List.mem_toArray.2 (Ja8 _ (Jb1 ..))),H _ (List.mem_toArray.2 (Ja8 _ (Ja8 _ (Jb1 ..))))];done)
   |skip)
end
end Go.Ax
noncomputable section
namespace Go.Ax
open Go.RowKit
def Gc(o:Oper):Bool:=match o.op with
 |.move _=>true
 |.assign _=>true
 |.pick _ _ _=>true
 |.build _ _=>true
 |.buildSlice _ _ _=>true
 |.load _ _=>true
 |.nilCheck _=>true
 |.makeInterface _ _=>true
 |.makeFunc _ _ _=>true
 |.slice _ _ _ _ _=>true
 |.fieldAddr _ _ _=>true
 |.field _ _ _=>true
 |.indexAddr _ _ _=>true
 |.lookup _ _ _ _=>true
 |.typeAssert _ _ _ _=>true
 |.extract _ _=>true
 |.binOp _ _ _ _ _=>true
 |.unOp _ _ _=>true
 |.convert _ _ _=>true
 |.index _ _ _=>true
 |.call c=>match c.callee with
  |.builtin .append=>false
  |.builtin .copy=>false
  |.builtin _=>true
  |_=>false
 |_=>false
section
variable {E:Env} {callK:Dk} {n:Nat} {ops:Array Oper}
theorem xV(S:St)(x:Option AV):(∃a,ofOpt S x=.val a S)∨ofOpt S x=.fail:=by
 cases x with
 |none=>exact .inr rfl
 |some a=>exact .inl ⟨a,rfl⟩
theorem kQ{f:T AV}{S:St}{o:Oper}(h:Gc o=true):(∃a,Bg E f S o=.val a S)∨Bg E f S o=.fail:=by
 have hg:(∃a,ground E.P E.G f S o=.val a S)∨ground E.P E.G f S o=.fail:=Ur;have hp:=xV S;obtain⟨dst,op,ty,pos,after,guard⟩:=o;cases op
 case slice t x lo hi mx =>
  cases mx with
  |none =>
   simp only[Bg]
   split
   ·split <;> first |exact hp _ |exact .inr rfl
   ·split <;> first |exact hp _ |exact .inr rfl
   ·split <;> first |exact hp _ |exact .inr rfl
   ·split <;> first |exact hp _ |exact .inr rfl
   ·exact .inr rfl
  |some m=>exact hp _
 case call c =>
  simp only[Gc]at h;simp only[Bg,Ct]
  cases hc:c.callee with
  |value fo=>rw[hc]at h;cases h
  |invoke r m=>rw[hc]at h;cases h
  |builtin b =>
   rw[hc]at h;cases b <;> first | (cases h;done) |exact hg |skip
   dsimp only
   split
   ·split
    ·split
     ·exact .inl ⟨_,rfl⟩
     ·exact .inr rfl
    ·exact .inr rfl
   ·exact .inr rfl
 case binOp op t x y yt =>
  simp only[Bg]
  split
  ·split
   ·split <;> first |exact .inl ⟨_,rfl⟩ |exact .inr rfl
   ·split
    ·exact .inl ⟨_,rfl⟩
    ·exact eqOr_ne
  ·exact .inr rfl
 case index t x i =>
  simp only[Bg]
  split
  ·split
   ·exact .inl ⟨_,rfl⟩
   ·exact hg
  ·exact .inr rfl
 case convert s d x =>
  simp only[Bg]
  split
  ·split
   ·exact .inl ⟨_,rfl⟩
   ·exact hg
  ·exact .inr rfl
 all_goals first
  | (simp[Gc]at h;done)
  |exact hp _
  |exact hg
  | (simp only[Bg];split <;> first |exact hp _ |exact .inr rfl |exact .inl ⟨_,rfl⟩)
inductive SR1 where
 |val (a:AV) (S:St)
 |dfr (d:Dfr) (S:St)
 |pan (a:AV) (S:St)
 |fail
def Mu(E:Env)(callK:Dk)(ops:Array Oper)(o:Oper)(f:T AV)(S:St):SR1 :=
 match Bc ops o f with
 |none=>.fail
 |some false=>.val (.tup []) S
 |some true=>match Bg E f S o with
  |.val a S'=>.val a S'
  |.skip S'=>.val (.tup []) S'
  |.enter k args S'=>match callK k args S' with
   |.ret a S''=>.val a S''
   |.pan a S''=>.pan a S''
   |.fail=>.fail
  |.dfr fn caps args S'=>.dfr ⟨fn,caps,args⟩ S'
  |.pan a S'=>.pan a S'
  |.fail=>.fail
def okD(n:Nat):Option Tmp→Bool
 |none=>true
 |some d=>decide (d<n)
def Hs(f:Fr)(dst:Option Tmp)(a:AV):Fr:=match dst with
 |none=>f
 |some d=>{ f with tmps:=f.tmps.set d (some a) }
theorem Ov(n:Nat)(f:Fr)(dst:Option Tmp)(a:AV)(S:St):M9 n f dst a S=if okD n dst then .out .normal (Hs f dst a) S else .fail:=by
 cases dst with
 |none=>rfl
 |some d=>simp[M9,okD,Hs]
theorem Qq(o:Oper)(f:Fr)(S:St):Fj E callK n ops o f S=match Mu E callK ops o f.tmps S with
  |.val a S'=>M9 n f o.dst a S'
  |.dfr d S'=>M9 n { f with dfr:=d :: f.dfr } o.dst (.tup []) S'
  |.pan a S'=>.out (.pan a) f S'
  |.fail=>.fail:=by
 unfold Fj Mu
 cases Bc ops o f.tmps with
 |none=>rfl
 |some b =>
  cases b with
  |false=>rfl
  |true =>
   simp only
   cases Bg E f.tmps S o with
   |enter k args S'=>simp only;cases callK k args S' <;> rfl
   |_=>rfl
def Tz(ops:Array Oper)(o:Oper)(f f':T AV):Prop:=∀t∈o.looksAt ops,f.get t=f'.get t
theorem gV{o:Oper}{f f':T AV}(h:Tz ops o f f'):∀x∈o.op.operands,A6 E.G f x=A6 E.G f' x:=fun x hx=>by
 cases x with
 |tmp t=>exact h t (by unfold Oper.looksAt;exact List.mem_append_left _ (List.mem_filterMap.2 ⟨.tmp t,by simpa using hx,rfl⟩))
 |_=>rfl
theorem X8{o:Oper}{f f':T AV}(h:Tz ops o f f'):Bc ops o f=Bc ops o f':=by
 unfold Bc
 split
 ·rfl
 ·rename_i j want hg
  split
  ·rfl
  ·rename_i d hd
   rw[h d (by unfold Oper.looksAt;refine List.mem_append_right _ ?_;rw[hg];simp[hd])]
theorem P0{o:Oper}{f f':T AV}{S:St}(h:Tz ops o f f'):Mu E callK ops o f S=Mu E callK ops o f' S:=by
 unfold Mu;rw[X8 h,Z6 (gV h)]
theorem U2{o:Oper}{f:Fr}{dst:Option Tmp}{a:AV}(h:∀d,dst=some d→d ∉ o.looksAt ops):Tz ops o (Hs f dst a).tmps f.tmps:=fun t ht=>by
 cases dst with
 |none=>rfl
 |some d =>
  show(f.tmps.set d (some a)).get t=_
  rw[T.get_set,if_neg (by intro e;subst e;exact h _ rfl ht)]
theorem jW(f:Fr){x y:Option Tmp}(h:∀d,x=some d→y≠some d)(a b:AV):Hs (Hs f x a) y b=Hs (Hs f y b) x a:=by
 cases x with
 |none=>rfl
 |some d =>
  cases y with
  |none=>rfl
  |some e =>
   have hne:e≠d:=fun he=>h d rfl (he ▸ rfl)
   show({ f with tmps:=(f.tmps.set d (some a)).set e (some b) }:Fr)={ f with tmps:=(f.tmps.set e (some b)).set d (some a) }
   rw[T.set_comm f.tmps hne]
def Fq(E:Env)(ops:Array Oper)(o:Oper)(f:T AV)(S:St):Option AV :=
 match Bc ops o f with
 |none=>none
 |some false=>some (.tup [])
 |some true=>match Bg E f S o with
  |.val a _=>some a
  |_=>none
theorem Jp{o:Oper}{f f':T AV}{S:St}(h:Tz ops o f f'):Fq E ops o f S=Fq E ops o f' S:=by
 unfold Fq;rw[X8 h,Z6 (gV h)]
theorem O8{o:Oper}(hl:Gc o=true)(f:T AV)(S:St):Mu E callK ops o f S=match Fq E ops o f S with
  |some a=>.val a S
  |none=>.fail:=by
 unfold Mu Fq
 cases Bc ops o f with
 |none=>rfl
 |some b =>
  cases b with
  |false=>rfl
  |true =>
   rcases kQ (E:=E) (f:=f) (S:=S) hl with⟨a,h⟩ |h <;> rw[h]
def Lg(o:Oper):Bool:=match o.op with
 |.move _=>true
 |.assign _=>true
 |.pick _ _ _=>true
 |.build _ _=>true
 |.buildSlice _ _ _=>true
 |.nilCheck _=>true
 |.makeInterface _ _=>true
 |.makeFunc _ _ _=>true
 |.slice _ _ _ _ _=>true
 |.fieldAddr _ _ _=>true
 |.field _ _ _=>true
 |.indexAddr _ _ _=>true
 |.typeAssert _ _ _ _=>true
 |.extract _ _=>true
 |.binOp _ _ _ _ _=>true
 |.unOp _ _ _=>true
 |.convert _ _ _=>true
 |.index _ _ _=>true
 |_=>false
def OR.look:OR→Option AV
 |.val a _=>some a
 |_=>none
theorem Lp(S:St)(x:Option AV):(ofOpt S x).look=x:=by cases x <;> rfl
theorem uH{f:T AV}{S S':St}{o:Oper}:(ground E.P E.G f S o).look=(ground E.P E.G f S' o).look:=by
 unfold ground
 split
 ·split
  ·split <;> rfl
  ·rfl
 ·rfl
theorem pure_look{f:T AV}{S S':St}{o:Oper}(h:Lg o=true):(Bg E f S o).look=(Bg E f S' o).look:=by
 have hg:=uH (E:=E) (f:=f) (S:=S) (S':=S') (o:=o);obtain⟨dst,op,ty,pos,after,guard⟩:=o;cases op
 case slice t x lo hi mx =>
  cases mx with
  |none =>
   simp only[Bg]
   split
   ·split
    ·simp only[Lp]
    ·rfl
   ·split
    ·simp only[Lp]
    ·rfl
   ·split
    ·simp only[Lp]
    ·rfl
   ·split
    ·simp only[Lp]
    ·rfl
   ·rfl
  |some m=>simp only[Bg,Lp]
 case binOp op t x y yt =>
  simp only[Bg]
  split
  ·split
   ·split <;> rfl
   ·split
    ·rfl
    ·unfold U7;split
     ·rfl
     ·exact hg
  ·rfl
 case index t x i =>
  simp only[Bg]
  split
  ·split
   ·rfl
   ·exact hg
  ·rfl
 case convert s d x =>
  simp only[Bg]
  split
  ·split
   ·rfl
   ·exact hg
  ·rfl
 all_goals first
  | (simp[Lg]at h;done)
  | (simp only[Bg,Lp];done)
  |exact hg
  | (simp only[Bg];split <;> first | (simp only[Lp];done) |rfl)
theorem V0{f:T AV}{S S':St}{o:Oper}(h:Lg o=true):Fq E ops o f S=Fq E ops o f S':=by
 have e:∀S,Fq E ops o f S=match Bc ops o f with |none=>none |some false=>some (.tup []) |some true=>(Bg E f S o).look:=fun S=>by
  unfold Fq
  cases Bc ops o f with
  |none=>rfl
  |some b =>
   cases b with
   |false=>rfl
   |true=>dsimp only;cases Bg E f S o <;> rfl
 rw[e S,e S',pure_look h]
structure Look where
 idx:Nat
 o:Oper
 f:T AV
 a:AV
def Iu(E:Env)(ops:Array Oper)(m:Nat)(S:St)(l:Look):Bool:=m.testBit l.idx || Lg l.o || (match Fq E ops l.o l.f S with
 |some b=>D1 l.a b
 |none=>false)
def Gx(E:Env)(callK:Dk)(n:Nat)(ops:Array Oper)(ms:List Nat)(fb:Fr):List Nat→Fr→St→List Look→O
 | [],f,S,_=>.out .normal f S
 |i :: r,f,S,L=>match ops[i]? with
  |none=>.fail
  |some o=>if Gc o then(match Fq E ops o f.tmps S with
    |some a=>if okD n o.dst then Gx E callK n ops ms fb r (Hs f o.dst a) S (⟨i,o,f.tmps,a⟩ :: L)else .fail
    |none=>.fail)
   else(match Mu E callK ops o f.tmps S with
    |.val a S'=>if okD n o.dst && L.all (Iu E ops (ms.getD i 0) S')then Gx E callK n ops ms fb r (Hs f o.dst a) S' L else .fail
    |.pan a S'=>.out (.pan a) fb S'
    |_=>.fail)
def LSub(E:Env)(ops:Array Oper)(L' L:List Look):Prop:=∀l'∈L',∃l∈L,l.idx=l'.idx∧l.a=l'.a∧Lg l.o=Lg l'.o∧∀S,Fq E ops l.o l.f S=Fq E ops l'.o l'.f S
theorem LSub.all{L' L:List Look}(h:LSub E ops L' L){m:Nat}{S:St}(ha:L.all (Iu E ops m S)=true):L'.all (Iu E ops m S)=true:=by
 rw[Jb6]at ha ⊢;intro l' hl';obtain⟨l,hl,h1,h2,h4,h3⟩:=h l' hl';have:=ha l hl;unfold Iu at this ⊢;rw[← h1,← h2,← h3,← h4];exact this
theorem LSub.cons{L' L:List Look}(h:LSub E ops L' L)(l:Look):LSub E ops (l :: L') (l :: L):=fun l' hl'=>by
 rcases Jb8.1 hl' with rfl |hl'
 ·exact⟨_,Jb1 ..,rfl,rfl,rfl,fun _=>rfl⟩
 ·obtain⟨x,hx,r⟩:=h l' hl';exact⟨x,Ja8 _ hx,r⟩
theorem Q8{ms:List Nat}{fb:Fr}:∀(rem:List Nat) (f:Fr) (S:St) (L L':List Look) (R:O),Gx E callK n ops ms fb rem f S L=R→R≠.fail→LSub E ops L' L→Gx E callK n ops ms fb rem f S L' = R
 | [],f,S,L,L',R,h,hne,hs=>h
 |i :: r,f,S,L,L',R,h,hne,hs=>by
  unfold Gx at h ⊢
  split at h
  ·exact absurd h.symm hne
  ·rename_i o ho
   split at h
   ·rename_i hl
    rw[if_pos hl]
    split at h
    ·rename_i a hv
     split at h
     ·rename_i hd
      rw[if_pos hd];exact Q8 r _ S _ _ R h hne (hs.cons _)
     ·exact absurd h.symm hne
    ·exact absurd h.symm hne
   ·rename_i hl
    rw[if_neg hl]
    split at h
    ·rename_i a S' hv
     split at h
     ·rename_i hd
      have hd2:(okD n o.dst && L'.all (Iu E ops (ms.getD i 0) S'))=true:=by
       rw[Ja2]at hd ⊢;exact⟨hd.1,hs.all hd.2⟩
      rw[if_pos hd2];exact Q8 r _ S' L L' R h hne hs
     ·exact absurd h.symm hne
    ·rename_i a S' hv
     exact h
    ·exact absurd h.symm hne
def okP(ops:Array Oper)(ms:List Nat)(j i:Nat):Bool:=(ms.getD i 0).testBit j || (match ops[j]?,ops[i]? with
 |some a,some b=>Gc a && a.apart ops b
 |_,_=>false)
def Dx(ops:Array Oper)(ms:List Nat):List Nat→Bool
 | []=>true
 |j :: r=>r.all (fun i=>okP ops ms j i) && Dx ops ms r
def Yb(E:Env)(callK:Dk)(n:Nat)(ops:Array Oper)(ms:List Nat)(fb:Fr)(rem:List Nat)(f:Fr)(S:St)(L:List Look)(i:Nat)(o:Oper)(R:O):Prop :=
 (Gc o=true∧∃a,Fq E ops o f.tmps S=some a∧okD n o.dst=true∧Gx E callK n ops ms fb (rem.erase i) (Hs f o.dst a) S L=R) ∨
 (Gc o=false∧((∃a S',Mu E callK ops o f.tmps S=.val a S'∧okD n o.dst=true∧L.all (Iu E ops (ms.getD i 0) S')=true∧Gx E callK n ops ms fb (rem.erase i) (Hs f o.dst a) S' L=R) ∨
  ∃a S',Mu E callK ops o f.tmps S=.pan a S'∧R=.out (.pan a) fb S'))
theorem zS{ms:List Nat}{fb:Fr}{i:Nat}{o:Oper}(ho:ops[i]? = some o):∀(rem:List Nat) (f:Fr) (S:St) (L:List Look) (R:O),i∈rem→(∀j∈rem,j≠i→(ms.getD i 0).testBit j=false)→Dx ops ms rem=true →
  Gx E callK n ops ms fb rem f S L=R→R≠.fail→Yb E callK n ops ms fb rem f S L i o R
 | [],f,S,L,R,hi,_,_,_,_=>by cases hi
 |j :: r,f,S,L,R,hi,hfree,hp,h,hne=>by
  by_cases hji:j=i
  ·subst hji
   unfold Gx at h;rw[ho]at h;simp only at h;unfold Yb;rw[List.erase_cons_head]
   split at h
   ·rename_i hl
    refine .inl ⟨hl,?_⟩
    split at h
    ·rename_i a hv
     split at h
     ·rename_i hd
      exact⟨a,hv,hd,Q8 r _ S _ _ R h hne (fun l hl=>⟨l,Ja8 _ hl,rfl,rfl,rfl,fun _=>rfl⟩)⟩
     ·exact absurd h.symm hne
    ·exact absurd h.symm hne
   ·rename_i hl
    refine .inr ⟨by simpa using hl,?_⟩
    split at h
    ·rename_i a S' hv
     split at h
     ·rename_i hd
      rw[Ja2]at hd;exact .inl ⟨a,S',hv,hd.1,hd.2,h⟩
     ·exact absurd h.symm hne
    ·rename_i a S' hv
     exact .inr ⟨a,S',hv,h.symm⟩
    ·exact absurd h.symm hne
  ·have hir:i∈r:=(Jb8.1 hi).resolve_left (fun e=>hji e.symm)
   have hbit:=hfree j (Jb1 ..) hji;unfold Dx at hp;rw[Ja2]at hp;have hok:=Jb6.1 hp.1 i hir;unfold okP at hok;rw[hbit,Bool.false_or]at hok;unfold Gx at h
   split at h
   ·exact absurd h.symm hne
   ·rename_i oj hoj
    rw[hoj,ho]at hok;simp only[Ja2]at hok;obtain⟨hlj,hap⟩:=hok;obtain⟨p1,p2,p3⟩:=Oper.apart_spec hap;rw[if_pos hlj]at h
    split at h
    ·rename_i aj hvj
     split at h
     ·rename_i hdj
      have ih:=zS ho r (Hs f oj.dst aj) S (⟨j,oj,f.tmps,aj⟩ :: L) R hir (fun k hk hki=>hfree k (Ja8 _ hk) hki) hp.2 h hne
      have hag:Tz ops o (Hs f oj.dst aj).tmps f.tmps:=U2 p1;have hera:(j :: r).erase i=j :: r.erase i:=by rw[List.erase_cons_tail (by simpa using hji)]
      have hswap:∀(a:AV),Hs (Hs f oj.dst aj) o.dst a=Hs (Hs f o.dst a) oj.dst aj:=fun a=>jW f p2 aj a
      have back:∀(a:AV) (S':St) (L0:List Look),Fq E ops oj f.tmps S' = some aj→Gx E callK n ops ms fb (r.erase i) (Hs (Hs f oj.dst aj) o.dst a) S' (⟨j,oj,f.tmps,aj⟩ :: L0)=R→Gx E callK n ops ms fb (j :: r.erase i) (Hs f o.dst a) S' L0=R:=fun a S' L0 hv hd=>by
       have hagj:Tz ops oj (Hs f o.dst a).tmps f.tmps:=U2 p3;unfold Gx;rw[hoj];simp only;rw[if_pos hlj,Jp hagj,hv];simp only;rw[if_pos hdj,← hswap];refine Q8 _ _ _ _ _ R hd hne (fun l hl=>?_)
       rcases Jb8.1 hl with rfl |hl
       ·exact⟨_,Jb1 ..,rfl,rfl,rfl,fun S=>(Jp hagj).symm⟩
       ·exact⟨l,Ja8 _ hl,rfl,rfl,rfl,fun _=>rfl⟩
      unfold Yb at ih ⊢;rw[hera];rcases ih with⟨hl,a,hv,hd,hrun⟩ | ⟨hl,⟨a,S',hv,hd,hall,hrun⟩ | ⟨a,S',hv,hR⟩⟩
      ·rw[Jp hag]at hv
       exact .inl ⟨hl,a,hv,hd,back a S L hvj hrun⟩
      ·rw[P0 hag]at hv
       rw[List.all_cons,Ja2]at hall;have hre:=hall.1;unfold Iu at hre;simp only[hbit,Bool.false_or]at hre
       cases hpu:Lg oj with
       |true=>exact .inr ⟨hl,.inl ⟨a,S',hv,hd,hall.2,back a S' L ((V0 hpu).trans hvj) hrun⟩⟩
       |false =>
       simp only[hpu,Bool.false_or]at hre
       split at hre
       ·rename_i b hb
        have hb2:Fq E ops oj f.tmps S' = some aj:=by rw[U1 _ _ hre];exact hb
        exact .inr ⟨hl,.inl ⟨a,S',hv,hd,hall.2,back a S' L hb2 hrun⟩⟩
       ·cases hre
      ·rw[P0 hag]at hv
       exact .inr ⟨hl,.inr ⟨a,S',hv,hR⟩⟩
     ·exact absurd h.symm hne
    ·exact absurd h.symm hne
end
end Go.Ax
noncomputable section
namespace Go.Ax
open Go.RowKit
def oE(ms:List Nat)(o:Oper):Nat:=o.after.toList.foldl (fun m e=>if Region.binds .any e then m ||| (2 ^ e.on ||| ms.getD e.on 0)else m) 0
def bm:List Oper→List Nat→List Nat
 | [],acc=>acc
 |o :: r,acc=>bm r (acc ++ [oE acc o])
def Yu:List Nat→Bool
 | []=>true
 |x :: r=>!r.contains x && Yu r
theorem K3:∀{l:List Nat},Yu l=true→l.Nodup
 | [],_=>List.nodup_nil
 |x :: r,h=>by
  unfold Yu at h;simp at h;exact List.nodup_cons.2 ⟨h.1,K3 h.2⟩
def Mh(ms:List Nat):List Oper→Nat→Bool
 | [],_=>true
 |o :: r,i=>(ms.getD i 0 == oE ms o) && (o.after.toList.all fun e=>!Region.binds .any e || decide (e.on<i)) && Mh ms r (i+1)
theorem Ph{ms:List Nat}:∀{l:List Oper} {i:Nat},Mh ms l i=true→∀{k:Nat} {o:Oper},l[k]? = some o→ms.getD (i+k) 0=oE ms o∧∀e∈o.after,Region.binds .any e=true→e.on<i+k
 | [],_,_,k,o,hk=>by simp at hk
 |x :: r,i,h,k,o,hk=>by
  unfold Mh at h;simp only[Ja2,beq_iff_eq]at h
  cases k with
  |zero =>
   simp at hk;subst hk;refine⟨h.1.1,fun e he hb=>?_⟩
   have:=Jb6.1 h.1.2 e (by simpa using he)
   simpa[hb]using this
  |succ k =>
   have:=Ph (l:=r) h.2 (k:=k) (by simpa using hk)
   rwa [show i+1+k=i+(k+1) by omega]at this
theorem uR(b:Edge→Bool)(g:Edge→Nat)(j:Nat):∀(l:List Edge) (m:Nat),(l.foldl (fun m e=>if b e then m ||| g e else m) m).testBit j=true→m.testBit j=true∨∃e∈l,b e=true∧(g e).testBit j=true
 | [],m,h=>.inl h
 |e :: r,m,h=>by
  rw[List.foldl_cons]at h;rcases uR b g j r _ h with h1 | ⟨e',he',h2⟩
  ·split at h1
   ·rename_i hb
    rw[Nat.testBit_or,Bool.or_eq_true]at h1;rcases h1 with h1 |h1
    ·exact .inl h1
    ·exact .inr ⟨e,Jb1 ..,hb,h1⟩
   ·exact .inl h1
  ·exact .inr ⟨e',Ja8 _ he',h2⟩
section
variable {E:Env} {callK:Dk} {n:Nat} {ops:Array Oper} {ms:List Nat}
def Dn(ops:Array Oper)(listed:Array Bool):Prop:=∀i o,ops[i]? = some o→listed.getD i false=true→∀e∈o.after,Region.binds .any e=true→listed.getD e.on false=true
theorem Sd(hm:Mh ms ops.toList 0=true){listed:Array Bool}(hd:Dn ops listed){j:Nat}:∀(k:Nat) (o:Oper),ops[k]? = some o→(∀e∈o.after,Region.binds .any e=true→listed.getD e.on false=true)→(ms.getD k 0).testBit j=true→listed.getD j false=true:=by
 intro k
 induction k using Nat.strongRecOn with
 |_ k ih =>
  intro o ho hp hb;have hk:=Ph hm (k:=k) (o:=o) (by simpa using ho)
  rw[Nat.zero_add]at hk;rw[hk.1]at hb;unfold oE at hb;rcases uR _ _ j _ _ hb with h0 | ⟨e,he,hbd,hbit⟩
  ·simp at h0
  ·have hem:e∈o.after:=by simpa using he
   have hl:=hp e hem hbd;rw[Nat.testBit_or,Bool.or_eq_true]at hbit;rcases hbit with hbit |hbit
   ·rw[Nat.testBit_two_pow]at hbit
    have:e.on=j:=by simpa using hbit
    rw[← this];exact hl
   ·have hlt:=hk.2 e hem hbd
    cases hoe:ops[e.on]? with
    |none =>
     have hlt2:¬ e.on<ops.size:=fun h=>by rw[Jc6 h]at hoe;cases hoe
     have hkl:k<ops.size:=(Jb9.1 ho).1;omega
    |some oe=>exact ih e.on hlt oe hoe (hd e.on oe hoe hl) hbit
structure FbOk(ops:Array Oper)(fb f:Fr):Prop where
 sub:∀t a,fb.tmps.get t=some a→f.tmps.get t=some a
 dfr:fb.dfr=f.dfr
 non:∀(i:Nat) o d,ops[i]? = some o→o.dst=some d→fb.tmps.get d=none
theorem FbOk.put{fb f:Fr}(h:FbOk ops fb f){i:Nat}{o:Oper}(ho:ops[i]? = some o)(a:AV):FbOk ops fb (Hs f o.dst a):=by
 unfold Hs
 split
 ·exact h
 ·rename_i d hd
  refine⟨fun t x hx=>?_,h.dfr,h.non⟩
  show(f.tmps.set d (some a)).get t=some x
  rw[T.get_set,if_neg (fun e=>by subst e;rw[h.non i o _ ho hd]at hx;cases hx)]
  exact h.sub t x hx
theorem FbOk.ar{fb f:Fr}(h:FbOk ops fb f){γ:Gh}{w:World}{act:Act}(ha:AR γ w n f act):AR γ w n fb act :=
 ⟨fun t a hta=>ha.tmps t a (h.sub t a hta),ha.size,by rw[h.dfr];exact ha.dfr⟩
theorem Q4(listed:Array Bool)(i j:Nat)(b:Bool)(hi:i<listed.size):(listed.setIfInBounds i true).getD j b=if i=j then true else listed.getD j b:=by
 rw[Jd5,Jd5]
 by_cases h:i=j
 ·subst h;simp[hi]
 ·rw[Array.getElem?_setIfInBounds_ne h,if_neg h]
theorem Nd{listed:Array Bool}{i:Nat}(hi:i<listed.size)(b c:Bool):listed.getD i b=listed.getD i c:=by
 simp[Jd5,hi]
theorem Uv{base:Nat}{w0:World}{Q:Exit→Act→World→Prop}(hE:E.Ok)(hC:Nm E base w0 callK)(hm:Mh ms ops.toList 0=true){fb:Fr}:∀(fuel:Nat) (rem:List Nat) (listed:Array Bool) (f:Fr) (S:St) (γ:Gh) (w:World) (act:Act),
  listed.size=ops.size→(∀i,i∈rem↔i<ops.size∧listed.getD i true=false)→rem.Nodup→rem.length≤fuel→Dn ops listed→Dx ops ms rem=true→SR base w0 γ S w→AR γ w n f act→GR γ w E.G→FbOk ops fb f →
  L8 base w0 n γ S w Q (Gx E callK n ops ms fb rem f S [])→wpAny E.P .any ops Q fuel listed act w:=by
 intro fuel
 induction fuel with
 |zero =>
  intro rem listed f S γ w act hsz hrem hnd hlen hdn hp hS ha hg hfb hH;have hr0:rem=[]:=List.eq_nil_of_length_eq_zero (by omega)
  subst hr0;refine⟨?_,hH γ act w hS (.refl _ _ _) ha⟩;rw[List.eq_nil_iff_forall_not_mem];intro i hi;obtain⟨h1,o,ho,_⟩:=mem_ready.1 hi;exact absurd ((hrem i).2 ⟨(Jb9.1 ho).1,h1⟩) (by simp)
 |succ fuel ih =>
  intro rem listed f S γ w act hsz hrem hnd hlen hdn hp hS ha hg hfb hH;have inb:∀{i},i∈rem→i<listed.size:=fun {i} hi=>by rw[hsz];exact((hrem i).1 hi).1
  refine⟨fun hready=>?_,fun i hi=>?_⟩
  ·
   have hr0:rem=[]:=by
    rw[List.eq_nil_iff_forall_not_mem];intro i
    induction i using Nat.strongRecOn with
    |_ i ihi =>
     intro hi;obtain⟨hlt,hun⟩:=(hrem i).1 hi;have hoi:ops[i]? = some ops[i]:=Jc6 hlt;have hk:=Ph hm (k:=i) (o:=ops[i]) (by simp[hlt])
     have:i∈Region.ready .any ops listed:=mem_ready.2 ⟨hun,ops[i],hoi,fun e he hb=>by
      have hel:=hk.2 e he hb;rw[Nat.zero_add]at hel;have hnr:=ihi e.on hel;rw[hrem]at hnr;have hes:e.on<listed.size:=by omega
      cases hx:listed.getD e.on false with
      |true=>rfl
      |false=>exact absurd ⟨by omega,(Nd hes true false).trans hx⟩ hnr⟩
     rw[hready]at this;cases this
   subst hr0;exact hH γ act w hS (.refl _ _ _) ha
  ·obtain⟨hun,o,ho,hpre⟩:=mem_ready.1 hi
   have hil:i<ops.size:=(Jb9.1 ho).1;have hir:i∈rem:=(hrem i).2 ⟨hil,hun⟩;have hne:Gx E callK n ops ms fb rem f S []≠.fail:=fun e=>by rw[e]at hH;exact hH
   have hfree:∀j∈rem,j≠i→(ms.getD i 0).testBit j=false:=fun j hj _=>by
    cases hb:(ms.getD i 0).testBit j with
    |false=>rfl
    |true =>
     have h1:=Sd hm hdn i o ho hpre hb;have h2:=((hrem j).1 hj).2;rw[Nd (inb hj) true false,h1]at h2;cases h2
   have hb:=zS ho rem f S [] _ hir hfree hp rfl hne
   have next:∀(f':Fr) (S':St) (γ':Gh) (act':Act) (w':World),SR base w0 γ' S' w'→Ext γ S w γ' S' w'→AR γ' w' n f' act'→FbOk ops fb f'→Gx E callK n ops ms fb (rem.erase i) f' S' []=Gx E callK n ops ms fb rem f S [] →
     wpAny E.P .any ops Q fuel (listed.setIfInBounds i true) act' w':=fun f' S' γ' act' w' k1 k2 k3 k4 k5=>by
    refine ih (rem.erase i) (listed.setIfInBounds i true) f' S' γ' w' act' (by simpa using hsz) (fun j=>?_) (hnd.erase i) (by rw[List.length_erase_of_mem hir];omega) (fun j oj hoj hlj e he hbd=>?_) ?_ k1 k3 (hg.mono k2.ev) k4 (by rw[k5];exact hH.later k2)
    ·rw[hnd.mem_erase_iff,hrem j,Q4 _ _ _ _ (by omega)]
     by_cases hji:i=j
     ·subst hji;simp
     ·rw[if_neg hji];exact⟨fun h=>h.2,fun h=>⟨fun e=>hji e.symm,h⟩⟩
    ·rw[Q4 _ _ _ _ (by omega)]at hlj ⊢
     split
     ·rfl
     ·split at hlj
      ·rename_i hij
       subst hij;rw[ho]at hoj;injection hoj with hoj;subst hoj
       exact hpre e he hbd
      ·exact hdn j oj hoj hlj e he hbd
    ·have sub:∀(l:List Nat),Dx ops ms l=true→Dx ops ms (l.erase i)=true:=by
      intro l
      induction l with
      |nil=>intro h;exact h
      |cons x r ihl =>
       intro h;unfold Dx at h;rw[Ja2]at h
       by_cases hx:x=i
       ·subst hx;rw[List.erase_cons_head];exact h.2
       ·rw[List.erase_cons_tail (by simpa using hx)]
        unfold Dx;rw[Ja2];exact⟨Jb6.2 fun y hy=>Jb6.1 h.1 y (List.mem_of_mem_erase hy),ihl h.2⟩
     exact sub rem hp
   have hst:=Qq (E:=E) (callK:=callK) (n:=n) (ops:=ops) o f S
   have key:L8 base w0 n γ S w (fun x a w=>match x with |.normal=>wpAny E.P .any ops Q fuel (listed.setIfInBounds i true) a w |x=>Q x a w) (Fj E callK n ops o f S):=by
    rw[hst];rcases hb with⟨hl,a,hv,hd,hrun⟩ | ⟨hl,⟨a,S',hv,hd,hall,hrun⟩ | ⟨a,S',hv,hR⟩⟩
    ·rw[O8 hl,hv]
     simp only;rw[Ov,if_pos hd];exact fun γ' act' w' k1 k2 k3=>next _ _ γ' act' w' k1 k2 k3 (hfb.put ho a) hrun
    ·rw[hv]
     simp only;rw[Ov,if_pos hd];exact fun γ' act' w' k1 k2 k3=>next _ _ γ' act' w' k1 k2 k3 (hfb.put ho a) hrun
    ·rw[hv]
     intro γ' act' w' k1 k2 k3 v hvr;rw[hR]at hH;exact hH γ' act' w' k1 k2 (hfb.ar k3) v hvr
   have:=P1 hE hC hS ha hg key;unfold wpOp;rw[ho];simp only
   split
   ·rename_i hw;rw[if_pos hw]at this;exact .inl this
   ·rename_i hw;rw[if_neg hw]at this;exact this
def Kp(ops:Array Oper)(ms:List Nat):Nat→List Nat→Nat→List Nat
 |0,_,_=>[]
 |k+1,rem,done =>
  match rem.find? fun i=>(match ops[i]? with |some o=>Gc o |none=>false) && (ms.getD i 0 &&& done == ms.getD i 0)with
  |some i=>i :: Kp ops ms k (rem.erase i) (done ||| 2 ^ i)
  |none=>match rem.find? fun i=>ms.getD i 0 &&& done == ms.getD i 0 with
   |some i=>i :: Kp ops ms k (rem.erase i) (done ||| 2 ^ i)
   |none=>[]
def Rp(ops:Array Oper)(ms order:List Nat):Bool :=
 Mh ms ops.toList 0 && Yu order && (order.all fun i=>decide (i<ops.size)) && ((List.range ops.size).all fun i=>order.contains i) && Dx ops ms order
def Gf:List Oper→T AV→T AV
 | [],f=>f
 |o :: r,f=>Gf r (match o.dst with |some d=>f.set d none |none=>f)
theorem Lt:∀(l:List Oper) (f:T AV) (t:Nat) (a:AV),(Gf l f).get t=some a→f.get t=some a∧∀o∈l,o.dst≠some t
 | [],f,t,a,h=>⟨h,fun _ h=>by cases h⟩
 |o :: r,f,t,a,h=>by
  unfold Gf at h;obtain⟨h1,h2⟩:=Lt r _ t a h
  split at h1
  ·rename_i d hd
   rw[T.get_set]at h1
   split at h1
   ·cases h1
   ·rename_i hne
    refine⟨h1,fun o' ho'=>?_⟩
    rcases Jb8.1 ho' with rfl |ho'
    ·rw[hd];intro e;injection e with e;exact hne e.symm
    ·exact h2 o' ho'
  ·rename_i hd
   refine⟨h1,fun o' ho'=>?_⟩
   rcases Jb8.1 ho' with rfl |ho'
   ·rw[hd];intro e;cases e
   ·exact h2 o' ho'
def H1(E:Env):Lj:=fun callK n ops f S =>
 let ms:=bm ops.toList []
 let order:=Kp ops ms ops.size (List.range ops.size) 0
 if Rp ops ms order then Gx E callK n ops ms ⟨Gf ops.toList f.tmps,f.dfr⟩ order f S []else .fail
theorem Tr(hE:E.Ok)(hmix:E.P.follows .mixedOrders=true):Sg E (H1 E):=by
 intro base w0 Q callK hC n id ops γ S w f act hS ha hg hH;unfold H1 at hH;simp only at hH
 split at hH
 ·rename_i hst
  generalize bm ops.toList []=ms at hst hH;generalize Kp ops ms ops.size (List.range ops.size) 0=order at hst hH;unfold Rp at hst;simp only[Ja2]at hst;obtain⟨⟨⟨⟨s1,s2⟩,s3⟩,s4⟩,s5⟩:=hst;obtain⟨d1,d2⟩:=hS.drew;have hx:Ext γ S w γ S w.drew:=Ext.of_same (w:=w) (w':=w.drew) rfl d2;refine wp_region_any hmix ?_;have hlist:∀(i:Nat) (b:Bool),i<ops.size→(Array.replicate ops.size false).getD i b=false:=fun i b h=>by simp[h]
  refine Uv hE hC s1 (fb:=⟨Gf ops.toList f.tmps,f.dfr⟩) ops.size order (Array.replicate ops.size false) f S γ w.drew act (by simp) (fun i=>⟨fun hi=>?_,fun hi=>?_⟩) (K3 s2) ?_ (fun i o ho hl=>?_) s5 d1 (ha.mono d2) (hg.mono d2) ⟨fun t a h=>(Lt _ _ t a h).1,rfl,fun i o d ho hd=>?_⟩ (hH.later hx)
  ·have:=Jb6.1 s3 i hi
   have hlt:i<ops.size:=by simpa using this
   exact⟨hlt,hlist i true hlt⟩
  ·have:=Jb6.1 s4 i (List.mem_range.2 hi.1)
   simpa using this
  ·have hsub:order ⊆ List.range ops.size:=fun i hi=>by
    have:=Jb6.1 s3 i hi;exact List.mem_range.2 (by simpa using this)
   have:=(K3 s2).length_le_of_subset hsub
   simpa using this
  ·have hlt:=(Jb9.1 ho).1
   rw[hlist i false hlt]at hl;cases hl
  ·cases hx:(Gf ops.toList f.tmps).get d with
   |none=>rfl
   |some a =>
    have:=(Lt _ _ d a hx).2 o (by
     have:=Array.mem_of_getElem? ho
     simpa using this)
    exact absurd hd this
 ·exact hH.elim
end
end Go.Ax
noncomputable section
namespace Go.Ax
open Go.RowKit
def isDfr(o:Oper):Bool:=match o.op with
 |.defer _=>true
 |_=>false
def Tm(fb:Fr)(r:O):O:=O.rec (motive:=fun _=>O) (fun e f S=>Ex.rec (motive:=fun _=>O) (.out .normal f S) (fun i=>.out (.exit i) f S) (.out .ret f S) (fun a=>.out (.pan a) fb S) e) .fail r
theorem exec1_dfr{E:Env}{f:T AV}{S S':St}{o:Oper}{fn:Fn}{caps args:List AV}(h:Bg E f S o=.dfr fn caps args S'):isDfr o=true:=by
 have key:∀(x:OR),x=.dfr fn caps args S'→(∃a,x=ofOpt S a)∨x=.fail∨(∃a,x=ofOptS a)∨x=ground E.P E.G f S o∨(∃a S,x=.val a S)∨(∃S,x=.skip S)∨(∃k l S,x=.enter k l S)∨(∃a S,x=.pan a S)→False:=by
  rintro x hx (⟨a,rfl⟩ |rfl | ⟨a,rfl⟩ |rfl | ⟨a,S2,rfl⟩ | ⟨S2,rfl⟩ | ⟨k,l,S2,rfl⟩ | ⟨a,S2,rfl⟩)
  ·cases a <;> cases hx
  ·cases hx
  ·cases a with
   |none=>cases hx
   |some q=>cases q;cases hx
  ·rcases Ur (P:=E.P) (G:=E.G) (f:=f) (S:=S) (o:=o)with⟨a,ha⟩ |ha <;> rw[ha]at hx <;> cases hx
  ·cases hx
  ·cases hx
  ·cases hx
  ·cases hx
 unfold isDfr
 split
 ·rfl
 ·rename_i hne
  exfalso;refine key _ h ?_;unfold Bg
  split
  all_goals first
   | (rename_i c ho;exact absurd ho (hne c))
   |skip
  all_goals try unfold Ct
  all_goals repeat' split
  all_goals try unfold U7
  all_goals repeat' split
  all_goals first
   |exact .inl ⟨_,rfl⟩
   |exact .inr (.inl rfl)
   |exact .inr (.inr (.inl ⟨_,rfl⟩))
   |exact .inr (.inr (.inr (.inl rfl)))
   |exact .inr (.inr (.inr (.inr (.inl ⟨_,_,rfl⟩))))
   |exact .inr (.inr (.inr (.inr (.inr (.inl ⟨_,rfl⟩)))))
   |exact .inr (.inr (.inr (.inr (.inr (.inr (.inl ⟨_,_,_,rfl⟩))))))
   |exact .inr (.inr (.inr (.inr (.inr (.inr (.inr ⟨_,_,rfl⟩))))))
inductive RS where
 |op (o:Oper)
 |re (o:Oper)
def okAp(ops:Array Oper)(o:Oper)(p:Oper):Bool:=match o.dst with
 |none=>true
 |some d=>!(p.looksAt ops).contains d && !(p.dst == some d)
def selfAp(ops:Array Oper)(o:Oper):Bool:=match o.dst with
 |none=>false
 |some d=>!(o.looksAt ops).contains d
def keepsD(ops:Array Oper)(o:Oper)(lk:List (Nat × Oper)):Bool:=lk.all fun p=>Lg p.2 || okAp ops o p.2
def gW(m:Nat)(lk:List (Nat × Oper)):List (Nat × Oper):=lk.filter fun p=>!m.testBit p.1 && !Lg p.2
def Lm(ops:Array Oper)(ms:List Nat):List Nat→List (Nat × Oper)→Option (List RS)
 | [],_=>some []
 |i :: r,lk=>match ops[i]? with
  |none=>none
  |some o=>if keepsD ops o lk then
    if Gc o then(if Lg o || selfAp ops o then(match Lm ops ms r ((i,o) :: lk)with
     |some l=>some (.op o :: l)
     |none=>none)else none)
    else if isDfr o then none else(match Lm ops ms r lk with
     |some l=>some (.op o :: ((gW (ms.getD i 0) lk).map fun p=>RS.re p.2) ++ l)
     |none=>none)
   else none
def Ez(E:Env)(ops:Array Oper)(o:Oper)(f:T AV)(S:St):Bool:=match Fq E ops o f S,o.dst with
 |some a,some d=>match f.get d with
  |some b=>D1 b a
  |none=>false
 |_,_=>false
def Fm(E:Env)(ck:Dk)(n:Nat)(ops:Array Oper):List RS→Fr→St→O
 | [],f,S=>.out .normal f S
 |.op o :: r,f,S=>match Fj E ck n ops o f S with
  |.out .normal f' S'=>Fm E ck n ops r f' S'
  |r=>r
 |.re o :: r,f,S=>if Ez E ops o f.tmps S then Fm E ck n ops r f S else .fail
theorem rQ{E:Env}{ck:Dk}{n:Nat}{ops:Array Oper}(r:List RS)(f:Fr)(S:St):∀(l:List (Nat × Oper)),Fm E ck n ops ((l.map fun p=>RS.re p.2) ++ r) f S=.fail∨((∀p∈l,Ez E ops p.2 f.tmps S=true)∧Fm E ck n ops ((l.map fun p=>RS.re p.2) ++ r) f S=Fm E ck n ops r f S)
 | []=>.inr ⟨fun _ h=>absurd h Ja7,rfl⟩
 |p :: l=>by
  have e:∀l f S,Fm E ck n ops (.re p.2 :: l) f S=if Ez E ops p.2 f.tmps S then Fm E ck n ops l f S else .fail:=fun _ _ _=>rfl
  rw[Jc2,List.cons_append,e]
  cases h:Ez E ops p.2 f.tmps S with
  |false=>exact .inl rfl
  |true =>
   rw[if_pos rfl];rcases rQ r f S l with h1 | ⟨h1,h2⟩
   ·exact .inl h1
   ·refine .inr ⟨fun q hq=>?_,h2⟩
    rcases Jb8.1 hq with rfl |hq
    ·exact h
    ·exact h1 q hq
def Seen(ops:Array Oper)(f:T AV)(l:Look):Prop:=Lg l.o=true∨(Tz ops l.o l.f f∧∃d,l.o.dst=some d∧f.get d=some l.a)
theorem Seen.put{ops:Array Oper}{f:Fr}{l:Look}(h:Seen ops f.tmps l){o:Oper}(ho:Lg l.o=true∨okAp ops o l.o=true)(a:AV):Seen ops (Hs f o.dst a).tmps l:=by
 rcases h with h | ⟨h1,d,h2,h3⟩
 ·exact .inl h
 ·rcases ho with ho |ho
  ·exact .inl ho
  ·refine .inr ?_
   unfold okAp at ho
   cases hd:o.dst with
   |none=>exact⟨h1,d,h2,h3⟩
   |some x =>
    rw[hd]at ho;simp only[Ja2,Bool.not_eq_true']at ho;obtain⟨k1,k2⟩:=ho;refine⟨fun t ht=>?_,d,h2,?_⟩
    ·show l.f.get t=(f.tmps.set x (some a)).get t
     rw[T.get_set,if_neg (fun e=>by subst e;rw[List.contains_eq_mem,decide_eq_false_iff_not]at k1;exact k1 ht)]
     exact h1 t ht
    ·show(f.tmps.set x (some a)).get d=some l.a
     rw[T.get_set,if_neg (fun e=>by subst e;rw[h2]at k2;simp at k2)]
     exact h3
theorem Jb{E:Env}{ck:Dk}{n:Nat}{ops:Array Oper}{ms:List Nat}{fb:Fr}:∀(l:List Nat) (rs:List RS) (f:Fr) (S:St) (L:List Look),Lm ops ms l (L.map fun l=>(l.idx,l.o))=some rs→(∀l∈L,Seen ops f.tmps l)→Fm E ck n ops rs f S=.fail∨Gx E ck n ops ms fb l f S L=Tm fb (Fm E ck n ops rs f S)
 | [],rs,f,S,L,h,hL=>by
  injection h with h;subst h
  refine .inr ?_;unfold Gx;rfl
 |i :: r,rs,f,S,L,h,hL=>by
  unfold Lm at h
  split at h
  ·cases h
  ·rename_i o ho
   split at h
   case isFalse=>cases h
   rename_i hk
   have hkeep:∀l∈L,Lg l.o=true∨okAp ops o l.o=true:=fun l hl=>by
    have:=Jb6.1 hk (l.idx,l.o) (List.mem_map.2 ⟨l,hl,rfl⟩)
    simpa using this
   split at h
   ·rename_i hl
    split at h
    case isFalse=>cases h
    rename_i hself
    split at h
    case h_2=>cases h
    rename_i l2 hl2;injection h with h;subst h
    unfold Gx Fm;rw[ho];simp only;rw[if_pos hl,Qq,O8 hl]
    cases hv:Fq E ops o f.tmps S with
    |none=>exact .inl rfl
    |some a =>
     simp only;rw[Ov]
     cases hd:okD n o.dst with
     |false=>exact .inl rfl
     |true =>
      refine Jb r l2 (Hs f o.dst a) S (⟨i,o,f.tmps,a⟩ :: L) hl2 fun l hl=>?_
      rcases Jb8.1 hl with rfl |hl
      ·rw[Bool.or_eq_true]at hself
       rcases hself with hself |hself
       ·exact .inl hself
       ·refine .inr ?_
        unfold selfAp at hself
        cases hd2:o.dst with
        |none=>rw[hd2]at hself;cases hself
        |some d =>
         rw[hd2]at hself;refine⟨fun t ht=>?_,d,rfl,?_⟩
         ·show f.tmps.get t=(f.tmps.set d (some a)).get t
          rw[T.get_set,if_neg (fun e=>by subst e;rw[Bool.not_eq_true',List.contains_eq_mem,decide_eq_false_iff_not]at hself;exact hself ht)]
         ·show(f.tmps.set d (some a)).get d=some a
          rw[T.get_set,if_pos rfl]
      ·exact(hL l hl).put (hkeep l hl) a
   ·rename_i hl
    split at h
    ·cases h
    rename_i hdf
    split at h
    case h_2=>cases h
    rename_i l2 hl2;injection h with h;subst h
    have e1:∀f S,Fm E ck n ops (.op o :: ((gW (ms.getD i 0) (L.map fun l=>(l.idx,l.o))).map fun p=>RS.re p.2) ++ l2) f S=match Fj E ck n ops o f S with
     |.out .normal f' S'=>Fm E ck n ops (((gW (ms.getD i 0) (L.map fun l=>(l.idx,l.o))).map fun p=>RS.re p.2) ++ l2) f' S'
     |r=>r:=fun _ _=>rfl
    rw[e1];unfold Gx;rw[ho];simp only;rw[if_neg hl,Qq]
    cases hs:Mu E ck ops o f.tmps S with
    |val a S' =>
     simp only;rw[Ov]
     cases hd:okD n o.dst with
     |false=>exact .inl rfl
     |true =>
      rw[if_pos rfl];simp only;have hseen:∀l∈L,Seen ops (Hs f o.dst a).tmps l:=fun l hl=>(hL l hl).put (hkeep l hl) a
      rcases rQ (E:=E) (ck:=ck) (n:=n) (ops:=ops) l2 (Hs f o.dst a) S' (gW (ms.getD i 0) (L.map fun l=>(l.idx,l.o)))with h1 | ⟨h1,h2⟩
      ·exact .inl h1
      ·rw[h2]
       have hall:L.all (Iu E ops (ms.getD i 0) S')=true:=by
        rw[Jb6];intro l hl;unfold Iu
        cases hb:(ms.getD i 0).testBit l.idx with
        |true=>rfl
        |false =>
         cases hp:Lg l.o with
         |true=>rfl
         |false =>
          have hag:=h1 (l.idx,l.o) (by unfold gW;rw[List.mem_filter];exact⟨List.mem_map.2 ⟨l,hl,rfl⟩,by simp only[hb,hp];rfl⟩)
          rcases hseen l hl with h3 | ⟨h3,d,h4,h5⟩
          ·rw[hp]at h3;cases h3
          ·unfold Ez at hag
           rw[Jp (S:=S') h3];simp only at hag
           split at hag
           ·rename_i a2 d2 hv hd2
            rw[h4]at hd2;injection hd2 with hd2;subst hd2
            rw[h5]at hag;rw[hv];exact hag
           ·cases hag
       rw[hall,Bool.true_and,if_pos rfl];exact Jb r l2 (Hs f o.dst a) S' L hl2 hseen
    |dfr d S' =>
     exfalso;unfold Mu at hs
     split at hs
     ·cases hs
     ·cases hs
     ·split at hs
      ·cases hs
      ·cases hs
      ·split at hs <;> cases hs
      ·rename_i he
       exact hdf (exec1_dfr he)
      ·cases hs
      ·cases hs
    |pan a S'=>exact .inr rfl
    |fail=>exact .inl rfl
theorem Rr{E:Env}{ck:Dk}{n:Nat}{ops:Array Oper}:∀(l m:List RS) (f:Fr) (S:St),Fm E ck n ops (l ++ m) f S=match Fm E ck n ops l f S with
  |.out .normal f' S'=>Fm E ck n ops m f' S'
  |r=>r
 | [],m,f,S=>rfl
 |.op o :: r,m,f,S=>by
  have e:∀l,Fm E ck n ops (.op o :: l) f S=match Fj E ck n ops o f S with
   |.out .normal f' S'=>Fm E ck n ops l f' S'
   |r=>r:=fun _=>rfl
  rw[List.cons_append,e,e]
  cases Fj E ck n ops o f S with
  |fail=>rfl
  |out e f' S'=>cases e <;> first |exact Rr r m f' S' |rfl
 |.re o :: r,m,f,S=>by
  have e:∀l,Fm E ck n ops (.re o :: l) f S=if Ez E ops o f.tmps S then Fm E ck n ops l f S else .fail:=fun _=>rfl
  rw[List.cons_append,e,e]
  cases Ez E ops o f.tmps S with
  |false=>rfl
  |true=>exact Rr r m f S
end Go.Ax
