/- Pj -/
import Derived.Test.YtjgknelmjdallaaGreatDoorTdG17
set_option linter.unusedVariables false
set_option linter.unusedSimpArgs false
set_option maxHeartbeats 16000000
noncomputable section
namespace Go.Ax
open Go.RowKit Go.Proofs
set_option maxRecDepth 100000
def gQ (x y:Value):Operand → Value:=fun z=>match z with
 | .tmp 0=>x
 | _=>y
theorem max_eq (F:Operand → Value) (dst:Option Tmp) (k l:Tmp) (ty:TypeId) (pos:String) (af:Array Edge) (gd:Option (Nat × Bool)):execOp F { dst:=dst,op:=.call { callee:=.builtin .max,args:=#[.tmp k,.tmp l],argTypes:=#[3,3] },type:=ty,pos:=pos,after:=af,guard:=gd }=execOp (gQ (F (.tmp k)) (F (.tmp l))) { dst:=none,op:=.call { callee:=.builtin .max,args:=#[.tmp 0,.tmp 1],argTypes:=#[3,3] },type:=ty,pos := "", after:=#[],guard:=none }:=by kernel_rfl
theorem max_val (a b:Int) (ty:TypeId):Rr Tryz.prog 4000 (execOp (gQ (.int .i64 a) (.int .i64 b)) { dst:=none,op:=.call { callee:=.builtin .max,args:=#[.tmp 0,.tmp 1],argTypes:=#[3,3] },type:=ty,pos := "", after:=#[],guard:=none })=some (.int .i64 (if b > a then b else a)):=by kernel_rfl
def maxX (P:Program) (G:Gl) (f:T AV) (S:St) (o:Oper):OR:=ground P G f S o
def maxO (r:OR) (S:St) (x y:Option AV):OR:=match x,y with
 | some (.v (.int .i64 a)),some (.v (.int .i64 b))=>.val (.v (.int .i64 (if b > a then b else a))) S
 | _,_=>r
theorem maxO_ii (r:OR) (S:St) (a b:Int):maxO r S (some (.v (.int .i64 a))) (some (.v (.int .i64 b)))=.val (.v (.int .i64 (if b > a then b else a))) S:=rfl
theorem ground_max (f:T AV) (S:St) (dst:Option Tmp) (k l:Tmp) (ty:TypeId) (pos:String) (af:Array Edge) (gd:Option (Nat × Bool)) :
  ground Tryz.prog gR f S { dst:=dst,op:=.call { callee:=.builtin .max,args:=#[.tmp k,.tmp l],argTypes:=#[3,3] },type:=ty,pos:=pos,after:=af,guard:=gd }=maxO (maxX Tryz.prog gR f S { dst:=dst,op:=.call { callee:=.builtin .max,args:=#[.tmp k,.tmp l],argTypes:=#[3,3] },type:=ty,pos:=pos,after:=af,guard:=gd }) S (f.get k) (f.get l):=by
 unfold maxO
 split
 ·rename_i a b h1 h2
  have hg1:Dp gR f (.tmp k)=some (.int .i64 a):=by unfold Dp; simp only [Ba,h1]; rfl
  have hg2:Dp gR f (.tmp l)=some (.int .i64 b):=by unfold Dp; simp only [Ba,h2]; rfl
  unfold ground
  have hall:((Op.call { callee:=.builtin .max,args:=#[.tmp k,.tmp l],argTypes:=#[3,3] }:Op).operands.toList.all fun x=>(Dp gR f x).isSome)=true:=by
   show ([Operand.tmp k,Operand.tmp l].all fun x=>(Dp gR f x).isSome)=true
   simp only [List.all_cons,List.all_nil,hg1,hg2,Option.isSome_some,Bool.and_self]
  refine (if_pos hall).trans ?_
  rw [max_eq]
  have e1:(Dp gR f (.tmp k)).getD undef=.int .i64 a:=by rw [hg1]; rfl
  have e2:(Dp gR f (.tmp l)).getD undef=.int .i64 b:=by rw [hg2]; rfl
  simp only [e1,e2,max_val]
  rfl
 ·rfl
mutual
def Hw:PE → Int
 | .mk _ _ _ _ _ kids=>IntKind.i64.wrap (Ns kids 0 + 1)
def Ns:List PE → Int → Int
 | [],m=>m
 | e :: r,m=>Ns r (if Hw e > m then Hw e else m)
end
inductive Wide:PE → Prop where
 | mk (kind pos:Nat) (n:Int) (name:List UInt8) (off:Bool) (kids:List PE) (h:kids.length ≤ 2000000) (hk:∀ e ∈ kids,Wide e):Wide (.mk kind pos n name off kids)
theorem RepF.len:∀ {es:List AV} {l:List PE},RepF es l → es.length=l.length:=fun {es l} h=>by
 induction es generalizing l with
 | nil=>cases h; rfl
 | cons a r ih=>cases h with
  | cons _ e _ l2 h h2=>simp [ih h2]
theorem U3 {S:St} {id kind pos:Nat} {n:Int} {name:List UInt8} {off:Bool} {kv:AV} (h:S.mem.get id=some (.box (exC kind pos n name off kv))):Cd Tryz.prog S 28 (.ptr id 5)=some kv:=by
 have a28:Fo Tryz.prog 28=some false:=by kernel_rfl
 simp [Cd,D0,h,a28,exC]
theorem aL (S:St):Fw Tryz.prog S 28 .nils=some 0:=by kernel_rfl
theorem Zy (S:St) (tok off:Nat) (es:List AV):Fw Tryz.prog S 28 (.sl tok off 6 es)=some es.length:=by
 have h:Tryz.prog.underlying 28=some (.slice 30):=rfl
 simp only [Fw,h]
theorem idx28 (tok off:Nat) (es:List AV) (j:Nat) (h:j < es.length) (ys:List AV) (hy:es[j]=.agg ys):Cm Tryz.prog 28 (.sl tok off 6 es) (.v (.int .i64 (j:Int)))=some (.ep ys):=by
 have h0:(0:Int) ≤ (j:Int):=by omega
 simp [Cm,h0,e28,s30,h,hy,AV.cells]
theorem lep30 (S:St) (ys:List AV) (h:ys.length=6):Cd Tryz.prog S 30 (.ep ys)=some (.agg ys):=by
 have e:ys.take 6=ys:=List.take_of_length_le (by omega)
 simp [Cd,D0,a30,s30,h,e]
theorem fnOk78:∃ fn,E1.F 78=some fn:=Option.isSome_iff_exists.1 (by kernel_rfl)
def rN:Code:=match Tryz.f78.body with
 | some (.seq _ (.seq _ (.seq _ (.seq (.block _ (.loop c)) _))))=>c
 | some (.seq _ (.seq _ (.seq (.seq _ (.block _ (.loop c))) _)))=>c
 | some (.seq _ (.seq _ (.seq (.seq _ (.seq (.block _ (.loop c)) _)) _)))=>c
 | _=>.skip
def DeepOk (e:PE):Prop:=∀ (ys:List AV),RepE (.agg ys) e → ∀ S,WC E1 78 [.agg ys] S (fun r=>∃ S',r=.ret (.v (.int .i64 (Hw e))) S' ∧ En S S')
def LoopDeep (S0:St) (d:Int) (r:O):Prop:=∃ t' S',r=.out (.exit 0) ⟨t',[]⟩ S' ∧ t'.get 3=some (.v (.int .i64 d)) ∧ En S0 S'
theorem iO (S0:St) (tok off:Nat) (es:List AV) (hes:es.length ≤ 2000000) (kv:AV) (hkv:kv=.sl tok off 6 es ∨ es=[]):∀ (suf:List PE) (j:Nat) (m:Int) (t:T AV) (S:St),RepF (es.drop j) suf → j ≤ es.length → (∀ e ∈ suf,DeepOk e) →
  t.get 3=some (.v (.int .i64 m)) → t.get 7=some kv → t.get 8=some (.v (.int .i64 (es.length:Int))) → t.get 9=some (.v (.int .i64 (j:Int))) → En S0 S → WX E1 20 (.loop rN) ⟨t,[]⟩ S (LoopDeep S0 (Ns suf m))
 | [],j,m,t,S,hr,hj,hd,h3,h7,h8,h9,hk=>by
  refine Do (Dh ?_)
  have hl:j=es.length:=by have:=hr.len; rw [List.length_drop] at this; simp at this; omega
  have hlt:¬ ((j:Int) < (es.length:Int)):=by omega
  simp only [Bv,Bo,A6,Bk,Bl,Bq,C1,A4,C7,Be,A7,Bf,Bd,C8,A5,Bc,Ba,A0,ofOpt,Cp,Bs,Cu,Nat.reduceLT,Nat.reduceEqDiff,Aa,Ab,Ac,Am,Aq,Tryz.f78,rN,h7,h8,h9,hlt]
  exact ⟨_,_,rfl,by simp [T.get_set,h3,Ns],hk⟩
 | e :: suf,j,m,t,S,hr,hj,hd,h3,h7,h8,h9,hk=>by
  refine Do (Dh ?_)
  have hl:j < es.length:=by have:=hr.len; rw [List.length_drop] at this; simp at this; omega
  have hlt:((j:Int) < (es.length:Int)):=by omega
  rw [List.drop_eq_getElem_cons hl] at hr
  obtain ⟨fn1,hf1⟩:=fnOk78
  cases hr with
  | cons _ _ _ _ hr1 hr2 =>
  obtain ⟨ys,hy,hyl⟩:=hr1.agg
  rw [hy] at hr1
  have q0:kv=.sl tok off 6 es:=by
   rcases hkv with h | h
   ·exact h
   ·rw [h] at hl; cases hl
  subst q0
  have q1:=idx28 tok off es j hl ys hy
  have q2:=lep30 S ys hyl
  have q3:=Xa (Cv S exZ) rfl hyl
  have g3:=Ed (S.newBox exZ) S.next ys
  have k3:En S ((S.newBox exZ).put S.next ys):=Et (Cz S _) (Nat.le_refl _) _
  generalize hS3:(S.newBox exZ).put S.next ys=S3 at q3 g3 k3
  have q4:=ld30 g3 hyl
  have w1:IntKind.i64.wrap ((j:Int) + 1)=((j + 1:Nat):Int):=K9 (j:=1) (by omega)
  simp only [Bv,Bo,A6,Bk,Bl,Bq,C1,A4,C7,Be,A7,Bf,Br,Bh,Bu,Bd,De,A5,Bc,Ba,A0,Bm,B5,ofOpt,ofOptS,Cp,Bs,Cu,Nat.reduceLT,Nat.reduceEqDiff,Aa,Ab,Ac,Aj,Ak,Am,Ap,Tryz.f78,Gu,rN,h3,h7,h8,h9,hlt,q1,q2,q3,q4,hf1]
  refine WC.mono (hd e (List.mem_cons_self ..) ys hr1 S3) ?_
  rintro _ ⟨S4,rfl,k4⟩
  simp only [Bw,A6,A4,Cf,Be,A7,Bf,Bd,Bp,A5,Bc,Ba,A0,Bm,ofOpt,Bb,Cp,Fj,Bs,Dg,Nat.reduceLT,Nat.reduceEqDiff,Aa,Ab,Ac,Am,h9,ground_max,maxO_ii,w1]
  exact iO S0 tok off es hes _ (.inl rfl) suf (j + 1) _ _ _ hr2 hl (fun e he=>hd e (List.mem_cons_of_mem _ he)) (by simp [T.get_set]) (by simp [T.get_set,h7]) (by simp [T.get_set,h8]) (by simp [T.get_set]) (hk.trans (k3.trans k4))
theorem deep_w:∀ {e:PE},Wide e → DeepOk e:=fun {e} hw=>by
 induction hw with
 | mk kind pos n name off kids hlen hk ih =>
  intro ys hr S
  cases hr with
  | mk _ _ _ _ _ kv _ hkk =>
  refine Dv Tryz.f78 (by kernel_rfl) (by kernel_rfl) (by kernel_rfl) (by show (_:Nat) ≤ _;simp [Tryz.f78]) ?_
  have g1:=Cv S (exC kind pos n name off kv)
  have l1:=U3 g1
  cases hkk with
  | nil =>
   simp only [A6,Bk,Bq,Dx,A4,Be,A7,Bf,Bd,A5,Bc,Ba,Ce,A0,A1,Bm,ofOpt,Bb,Cp,Nat.reduceLT,Nat.reduceEqDiff,Aa,Ab,Ac,Ae,Tryz.f78,Ca,Cb,fe5,l1,aL]
   refine WX.mono (iO (S.newBox (exC kind pos n name off .nils)) 0 0 [] (by simp) .nils (.inr rfl) [] 0 0 _ _ .nil (by simp) (fun e h=>by cases h) (by simp [T.get_set]) (by simp [T.get_set]) (by simp [T.get_set]) (by simp [T.get_set]) ⟨Nat.le_refl _,fun _ _=>rfl⟩) ?_
   rintro _ ⟨t',S',rfl,g3,k9⟩
   simp only [A6,Bk,B1,A4,C7,C5,Be,A7,Bf,Bd,A5,Bc,Ba,A0,ofOpt,Bb,Cp,Bs,Bi,B0,Bg,Cs,Dg,Nat.reduceLT,Nat.reduceEqDiff,Aa,Ab,Ac,Am,g3]
   exact ⟨_,rfl,(Cz S _).trans k9⟩
  | row tok o es _ hf =>
   have hl:=hf.len
   simp only [A6,Bk,Bq,Dx,A4,Be,A7,Bf,Bd,A5,Bc,Ba,Ce,A0,A1,Bm,ofOpt,Bb,Cp,Nat.reduceLT,Nat.reduceEqDiff,Aa,Ab,Ac,Ae,Tryz.f78,Ca,Cb,fe5,l1,Zy]
   refine WX.mono (iO (S.newBox (exC kind pos n name off (.sl tok o 6 es))) tok o es (by omega) (.sl tok o 6 es) (.inl rfl) kids 0 0 _ _ hf (by omega) ih (by simp [T.get_set]) (by simp [T.get_set]) (by simp [T.get_set]) (by simp [T.get_set]) ⟨Nat.le_refl _,fun _ _=>rfl⟩) ?_
   rintro _ ⟨t',S',rfl,g3,k9⟩
   simp only [A6,Bk,B1,A4,C7,C5,Be,A7,Bf,Bd,A5,Bc,Ba,A0,ofOpt,Bb,Cp,Bs,Bi,B0,Bg,Cs,Dg,Nat.reduceLT,Nat.reduceEqDiff,Aa,Ab,Ac,Am,g3]
   exact ⟨_,rfl,(Cz S _).trans k9⟩
theorem Fk {α β:Type} {x:PR α} {f:α → Nat → PR β} {b:β} {j:Nat} (h:PR.bind x f=.ok b j):∃ a m,x=.ok a m ∧ f a m=.ok b j:=by
 cases x with
 | ok a m=>exact ⟨a,m,rfl,h⟩
 | bad a e=>cases h
 | out=>cases h
theorem wide0 (kind pos:Nat) (n:Int) (name:List UInt8) (off:Bool):Wide (.mk kind pos n name off []):=.mk _ _ _ _ _ _ (by simp) (fun e h=>by cases h)
theorem wide1 {x:PE} (h:Wide x) (kind pos:Nat) (n:Int) (name:List UInt8) (off:Bool):Wide (.mk kind pos n name off [x]):=.mk _ _ _ _ _ _ (by simp) (fun e he=>by
 rcases List.mem_cons.1 he with rfl | he
 ·exact h
 ·cases he)
theorem wide2 {x y:PE} (h:Wide x) (h2:Wide y) (kind pos:Nat) (n:Int) (name:List UInt8) (off:Bool):Wide (.mk kind pos n name off [x,y]):=.mk _ _ _ _ _ _ (by simp) (fun e he=>by
 simp only [List.mem_cons,List.not_mem_nil,or_false] at he
 rcases he with rfl | rfl
 ·exact h
 ·exact h2)
theorem wide3 {x y z:PE} (h:Wide x) (h2:Wide y) (h3:Wide z) (kind pos:Nat) (n:Int) (name:List UInt8) (off:Bool):Wide (.mk kind pos n name off [x,y,z]):=.mk _ _ _ _ _ _ (by simp) (fun e he=>by
 simp only [List.mem_cons,List.not_mem_nil,or_false] at he
 rcases he with rfl | rfl | rfl
 ·exact h
 ·exact h2
 ·exact h3)
theorem Jr {α:Type} {a b:α} {i j:Nat} (h:(PR.ok a i:PR α)=.ok b j):a=b ∧ i=j:=by injection h with h1 h2; exact ⟨h1,h2⟩
theorem Un {ts:List Tk} {ws:List (List UInt8)} {kid:Nat → PR PE} (hk:∀ i e j,kid i=.ok e j → Wide e):∀ (n:Nat) (x:PE) (i:Nat) (e:PE) (j:Nat),Wide x → Lp ts ws kid n x i=.ok e j → Wide e
 | 0,x,i,e,j,hx,h=>by cases h
 | n + 1,x,i,e,j,hx,h=>by
  unfold Lp at h
  split at h
  ·obtain ⟨a,m,h1,h2⟩:=Fk h
   exact Un hk n _ _ _ _ (wide2 hx (hk _ _ _ h1) ..) h2
  ·obtain ⟨rfl,_⟩:=Jr h; exact hx
theorem mZ {ts:List Tk}:∀ (n:Nat) (x:PE) (i:Nat) (e:PE) (j:Nat),Wide x → Ls ts n x i=.ok e j → Wide e
 | 0,x,i,e,j,hx,h=>by cases h
 | n + 1,x,i,e,j,hx,h=>by
  unfold Ls at h
  split at h
  ·obtain ⟨a,m,h1,h2⟩:=Fk h
   exact mZ n _ _ _ _ (wide1 hx ..) h2
  ·obtain ⟨rfl,_⟩:=Jr h; exact hx
theorem aD {ts:List Tk} {kid:Nat → PR PE} (hk:∀ i e j,kid i=.ok e j → Wide e):∀ (n:Nat) (l:List PE) (i:Nat) (r:List PE) (j:Nat),(∀ e ∈ l,Wide e) → Ik ts kid n l i=.ok r j → (∀ e ∈ r,Wide e) ∧ r.length ≤ l.length + n
 | 0,l,i,r,j,hl,h=>by cases h
 | n + 1,l,i,r,j,hl,h=>by
  unfold Ik at h
  split at h
  ·obtain ⟨a,m,h1,h2⟩:=Fk h
   obtain ⟨h3,h4⟩:=aD hk n _ _ _ _ (fun e he=>by
    rcases List.mem_append.1 he with he | he
    ·exact hl e he
    ·rcases List.mem_cons.1 he with rfl | he
     ·exact hk _ _ _ h1
     ·cases he) h2
   refine ⟨h3,?_⟩
   rw [List.length_append] at h4
   simp at h4
   omega
  ·obtain ⟨a,m,h1,h2⟩:=Fk h
   obtain ⟨rfl,_⟩:=Jr h2; exact ⟨hl,by omega⟩
theorem listP_wide {ts:List Tk} {kid:Nat → PR PE} (hk:∀ i e j,kid i=.ok e j → Wide e) (n i:Nat) (r:List PE) (j:Nat) (h:Lg ts kid n i=.ok r j):(∀ e ∈ r,Wide e) ∧ r.length ≤ n + 1:=by
 unfold Lg at h
 obtain ⟨a,m,h1,h2⟩:=Fk h
 split at h2
 ·obtain ⟨rfl,_⟩:=Jr h2; exact ⟨fun e he=>(by cases he),by simp⟩
 ·obtain ⟨b,m2,h3,h4⟩:=Fk h2
  obtain ⟨h5,h6⟩:=aD hk n _ _ _ _ (fun e he=>by
   rcases List.mem_cons.1 he with rfl | he
   ·exact hk _ _ _ h3
   ·cases he) h4
  refine ⟨h5,?_⟩
  simp at h6
  omega
theorem gK {ts:List Tk} {i:Nat} {e:PE} {j:Nat} (h:Ni ts i=.ok e j):Wide e:=by
 unfold Ni at h
 split at h
 ·cases h
 ·split at h
  ·split at h
   ·cases h
   ·split at h
    ·obtain ⟨rfl,_⟩:=Jr h; exact wide0 ..
    ·cases h
  ·split at h
   ·split at h
    ·cases h
    ·obtain ⟨rfl,_⟩:=Jr h; exact wide0 ..
   ·cases h
theorem nE (t:Tk):Wide (Lc t):=wide0 ..
theorem sT {ts:List Tk}:∀ (n:Nat),n ≤ 1000000 → ∀ (nt:NT) (i:Nat) (e:PE) (j:Nat),P ts n nt i=.ok e j → Wide e
 | 0,_,nt,i,e,j,h=>by cases nt <;> cases h
 | n + 1,hn,nt,i,e,j,h=>by
  have ih:∀ (nt:NT) (i:Nat) (e:PE) (j:Nat),P ts n nt i=.ok e j → Wide e:=sT n (by omega)
  cases nt with
  | expr =>
   unfold P at h
   split at h
   ·obtain ⟨a,m,h1,h⟩:=Fk h
    obtain ⟨_,m,_,h⟩:=Fk h
    obtain ⟨b,m,h2,h⟩:=Fk h
    obtain ⟨_,m,_,h⟩:=Fk h
    obtain ⟨c,m,h3,h⟩:=Fk h
    obtain ⟨rfl,_⟩:=Jr h; exact wide3 (ih _ _ _ _ h1) (ih _ _ _ _ h2) (ih _ _ _ _ h3) ..
   ·exact ih _ _ _ _ h
  | arrow =>
   unfold P at h
   obtain ⟨a,m,h1,h⟩:=Fk h
   split at h
   ·obtain ⟨b,m,h2,h⟩:=Fk h
    obtain ⟨rfl,_⟩:=Jr h; exact wide2 (ih _ _ _ _ h1) (ih _ _ _ _ h2) ..
   ·split at h
    ·obtain ⟨rfl,_⟩:=Jr h; exact ih _ _ _ _ h1
    ·split at h
     ·obtain ⟨b,m,h2,h⟩:=Fk h
      obtain ⟨rfl,_⟩:=Jr h; exact wide2 (ih _ _ _ _ h1) (ih _ _ _ _ h2) ..
     ·obtain ⟨rfl,_⟩:=Jr h; exact ih _ _ _ _ h1
  | or=>unfold P at h; obtain ⟨a,m,h1,h⟩:=Fk h; exact Un (ih _) n _ _ _ _ (ih _ _ _ _ h1) h
  | and=>unfold P at h; obtain ⟨a,m,h1,h⟩:=Fk h; exact Un (ih _) n _ _ _ _ (ih _ _ _ _ h1) h
  | sum=>unfold P at h; obtain ⟨a,m,h1,h⟩:=Fk h; exact Un (ih _) n _ _ _ _ (ih _ _ _ _ h1) h
  | term=>unfold P at h; obtain ⟨a,m,h1,h⟩:=Fk h; exact Un (ih _) n _ _ _ _ (ih _ _ _ _ h1) h
  | not =>
   unfold P at h
   split at h
   ·obtain ⟨a,m,h1,h⟩:=Fk h
    obtain ⟨rfl,_⟩:=Jr h; exact wide1 (ih _ _ _ _ h1) ..
   ·obtain ⟨a,m,h1,h⟩:=Fk h
    split at h
    ·obtain ⟨b,m,h2,h⟩:=Fk h
     obtain ⟨rfl,_⟩:=Jr h; exact wide2 (ih _ _ _ _ h1) (ih _ _ _ _ h2) ..
    ·obtain ⟨rfl,_⟩:=Jr h; exact ih _ _ _ _ h1
  | unary =>
   unfold P at h
   split at h
   ·obtain ⟨a,m,h1,h⟩:=Fk h
    obtain ⟨rfl,_⟩:=Jr h; exact wide1 (ih _ _ _ _ h1) ..
   ·split at h
    ·exact gK h
    ·split at h
     ·obtain ⟨a,m,h1,h⟩:=Fk h
      obtain ⟨rfl,_⟩:=Jr h; exact wide1 (ih _ _ _ _ h1) ..
     ·exact ih _ _ _ _ h
  | when=>unfold P at h; obtain ⟨a,m,h1,h⟩:=Fk h; exact mZ n _ _ _ _ (ih _ _ _ _ h1) h
  | primary =>
   unfold P at h
   split at h
   ·exact gK h
   ·split at h
    ·exact ih _ _ _ _ h
    ·split at h
     ·obtain ⟨rfl,_⟩:=Jr h; exact nE _
     ·split at h
      ·obtain ⟨_,m,_,h⟩:=Fk h
       obtain ⟨a,m,h1,h⟩:=Fk h
       obtain ⟨b,m,h2,h⟩:=Fk h
       obtain ⟨rfl,_⟩:=Jr h; exact wide2 (ih _ _ _ _ h1) (ih _ _ _ _ h2) ..
      ·split at h
       ·obtain ⟨_,m,_,h⟩:=Fk h
        split at h
        ·obtain ⟨_,m,_,h⟩:=Fk h
         obtain ⟨a,m,h1,h⟩:=Fk h
         obtain ⟨l,m,h2,h⟩:=Fk h
         obtain ⟨h3,h4⟩:=aD (ih .lit) n _ _ _ _ (fun e he=>by
          rcases List.mem_cons.1 he with rfl | he
          ·exact ih _ _ _ _ h1
          ·cases he) h2
         obtain ⟨rfl,_⟩:=Jr h
         simp at h4
         exact .mk _ _ _ _ _ _ (by omega) h3
        ·obtain ⟨rfl,_⟩:=Jr h; exact wide0 ..
       ·exact ih _ _ _ _ h
  | name =>
   unfold P at h
   split at h
   ·exact ih _ _ _ _ h
   ·obtain ⟨_,m,_,h⟩:=Fk h
    obtain ⟨rfl,_⟩:=Jr h; exact wide0 ..
  | call =>
   unfold P at h
   obtain ⟨_,m,_,h⟩:=Fk h
   obtain ⟨l,m,h2,h⟩:=Fk h
   obtain ⟨h3,h4⟩:=listP_wide (ih .expr) n _ _ _ h2
   obtain ⟨rfl,_⟩:=Jr h
   exact .mk _ _ _ _ _ _ (by omega) h3
  | brk =>
   unfold P at h
   obtain ⟨_,m,_,h⟩:=Fk h
   obtain ⟨a,m,h1,h⟩:=Fk h
   obtain ⟨_,m,_,h⟩:=Fk h
   obtain ⟨rfl,_⟩:=Jr h; exact ih _ _ _ _ h1
  | lit =>
   unfold P at h
   split at h
   ·obtain ⟨rfl,_⟩:=Jr h; exact nE _
   ·exact gK h
def cE:PE → Nat
 | .mk _ pos _ _ _ _=>pos
def Hm (kid:Nat → PR PE) (i:Nat):PR PE:=(kid i).bind fun e j=>if Hw e > 40 then .bad (cE e) 3 else .ok e j
theorem fnOk46:∃ fn,E1.F 46=some fn:=Option.isSome_iff_exists.1 (by kernel_rfl)
theorem ld3p {S:St} {id:Nat} {xs:List AV} {e:PE} (h:S.mem.get id=some (.box xs)) (hr:RepE (.agg xs) e):Cd Tryz.prog S 3 (.ptr id 1)=some (.v (.int .i64 (cE e:Int))):=by
 cases hr with
 | mk kind pos n name off kv kids h2=>simp [Cd,D0,h,a3,exC,Dq,cE]
theorem fe1 (b:Nat):C2 Tryz.prog 30 (.ptr b 0) 1=some (.ptr b 1):=by kernel_rfl
section
variable {p k:Nat} {ts:List Tk} (hts:TokOk ts)
include hts
theorem fR (m:Nat) (kid:Nat → PR PE) (hF:∃ fn,E1.F m=some fn) (hkid:Con p k ts m kid) (hw:∀ i e j,kid i=.ok e j → Wide e) (S:St) (i:Nat) (h:Cur S p k ts i) (hp:p < S.next) (hi:i < ts.length) (ho:kid i ≠ .out):WC E1 46 [.ptr p 0,Pu m p] S (Re p k ts S RepE (Hm kid i)):=by
 have _:=hts
 refine Dv Tryz.f46 (by kernel_rfl) (by kernel_rfl) (by kernel_rfl) (by show (_:Nat) ≤ _;simp [Tryz.f46]) ?_
 obtain ⟨fn1,hf1⟩:=hF
 obtain ⟨fn2,hf2⟩:=fnOk78
 unfold Hm
 obtain ⟨x1,c1,br,hp1⟩:=Ks h hp
 have y2:=x1
 simp only [A6,Bk,A4,Be,A7,Bf,Bh,Bd,A5,Bc,Ba,Ce,A0,A1,Bm,B5,ofOpt,ofOptS,Cp,Nat.reduceLT,Nat.reduceAdd,Nat.reduceEqDiff,Aa,Ab,Ac,Ae,Ak,Tryz.f46,Gu,hf1,Pu]
 refine WC.mono (hkid _ _ c1 hp1 hi ho) ?_
 cases hX3:kid i with
 | out=>exact absurd hX3 ho
 | bad a e =>
  rintro _ ⟨S3,rfl,x3⟩
  simp only [Cl,Cq,Cg]
  exact ⟨_,rfl,y2.trans x3⟩
 | ok a3 j3 =>
  rintro _ ⟨v3,S3,rfl,hr3,x3,c3,hi3⟩
  obtain ⟨xs3,rfl,hl3⟩:=RepE.agg hr3
  have rf3:=RepE.refl hr3
  have hp3:p < S3.next:=Nat.lt_of_lt_of_le hp1 x3.1
  have y4:=(y2).trans x3
  have br_4:=br.keep x3
  rw [D2]
  obtain ⟨S5,q5,x5,c5,bx,hp5⟩:=Vm c3 hp3 (xs:=xs3) hl3
  have y6:=(y4).trans x5
  have br_6:=br_4.keep x5
  have l7:=bx.ld30 hl3
  simp only [A6,Bk,A4,Be,A7,Bf,Br,Bh,Bu,Bd,Bp,A5,Bc,Ba,A0,A1,Bm,B5,ofOpt,ofOptS,Cp,Nat.reduceLT,Nat.reduceEqDiff,Aa,Ab,Ac,Aj,Ak,Gu,hf2,q5,l7]
  refine WC.mono (deep_w (hw _ _ _ hX3) xs3 hr3 _) ?_
  rintro _ ⟨S8,rfl,k8⟩
  have x8:=k8.x p
  have c8:=c5.keep hp5 k8
  have hp8:p < S8.next:=Nat.lt_of_lt_of_le hp5 x8.1
  have y9:=(y6).trans x8
  have br_9:=br_6.keep x8
  have bx_9:=bx.keep x8
  have l10:=bx_9.ld30 hl3
  by_cases hd:Hw a3 > 40
  ·rw [if_pos hd]
   have lp:=ld3p bx_9.get hr3
   have m3:T8 Tryz.prog 33 (.agg [.v (.int .i64 (cE a3:Int)),.v (.int .i64 3)])=some (.iface 33 (.agg [.v (.int .i64 (cE a3:Int)),.v (.int .i64 3)])):=mkI33 _ 3
   simp only [Bo,A6,Bk,Bl,A4,Cl,Be,A7,Bf,D5,Bd,Bp,De,A5,Bc,Ba,A0,A1,ofOpt,Bb,Cp,Bz,Bs,Cg,D8,Nat.reduceLT,Nat.reduceEqDiff,Aa,Ab,Ac,Am,Ap,l10,hd,fe1,lp,xT,m3]
   exact ⟨_,rfl,y9⟩
  ·rw [if_neg hd]
   obtain ⟨g11,h11,gx,gc⟩:=G4 (S0:=S) c8 br_9 rfl (Nat.le_refl _) y9 (xs:=xs3) hl3
   simp only [Bo,A6,Bk,Bl,B1,A4,Be,A7,Bf,Br,Bu,Bd,Bp,C8,A5,Bc,Ba,A0,A1,ofOpt,Bb,Cp,Bs,Bi,B0,Bg,Cs,D8,Nat.reduceLT,Nat.reduceEqDiff,Aa,Ab,Ac,Am,Aq,l10,hd,g11,h11]
   exact ⟨_,_,rfl,hr3,gx,gc,hi3⟩
omit hts
structure PQ where
 left:List (List UInt8 × Nat)
 async:Bool
 e:PE
def eqC (lv:AV) (a:Bool) (xs:List AV):List AV:=lv :: .v (.bool a) :: xs
def Zl (v:AV) (q:PQ):Prop:=∃ lv xs,v=.agg (eqC lv q.async xs) ∧ F2 2 Hr lv q.left ∧ xs.length=6 ∧ RepE (.agg xs) q.e
def eqP (ts:List Tk) (n i:Nat):PR PQ:=(J9 ts n i).bind fun ls j=>(Ef ts [[61]] j).bind fun _ j=>if (tk ts j).text ∈ [[97,115,121,110,99]] then (Hm (P ts n .call) (j + 1)).bind fun e m=>(Ef ts [[59]] m).bind fun _ m=>.ok ⟨ls,true,e⟩ m else (Hm (P ts n .expr) j).bind fun e m=>(Ef ts [[59]] m).bind fun _ m=>.ok ⟨ls,false,e⟩ m
theorem ag57:Fo Tryz.prog 57=some true:=by kernel_rfl
theorem bN:Fu Tryz.prog 57=some 8:=by kernel_rfl
def sY:List AV:=eqC .nils false exZ
theorem alo57 (S:St):Js Tryz.prog S 57=some (.ptr S.next 0,S.newBox sY):=by kernel_rfl
theorem b57 (v:AV) (l:List (List UInt8 × Nat)) (h:F2 2 Hr v l):Gc Tryz.prog 57 [(0,v)]=some (.agg (eqC v false exZ)):=by
 rcases h with ⟨rfl,_⟩ | ⟨tok,off,rfl⟩
 ·kernel_rfl
 ·generalize l.map Hr=es
  kernel_rfl
theorem fq1 (b:Nat):C2 Tryz.prog 57 (.ptr b 0) 1=some (.ptr b 1):=by kernel_rfl
theorem fq2 (b:Nat):C2 Tryz.prog 57 (.ptr b 0) 2=some (.ptr b 2):=by kernel_rfl
theorem st57_1 {S:St} {id:Nat} {lv:AV} {a:Bool} {xs:List AV} (h:S.mem.get id=some (.box (eqC lv a xs))) (o:Bool):Dt Tryz.prog S 4 (.ptr id 1) (.v (.bool o))=some (S.put id (eqC lv o xs)):=by
 have h2:(AV.v (.bool o)).noTup=true:=rfl
 have s4:Fu Tryz.prog 4=some 1:=by kernel_rfl
 simp [Dt,h,s4,h2,AV.cells,St.put,eqC]
theorem ld57_1 {S:St} {id:Nat} {lv:AV} {a:Bool} {xs:List AV} (h:S.mem.get id=some (.box (eqC lv a xs))):Cd Tryz.prog S 4 (.ptr id 1)=some (.v (.bool a)):=by
 have a4:Fo Tryz.prog 4=some false:=by kernel_rfl
 simp [Cd,D0,h,a4,eqC]
theorem st57_2 {S:St} {id:Nat} {lv:AV} {a:Bool} {xs ys:List AV} (h:S.mem.get id=some (.box (eqC lv a xs))) (hx:xs.length=6) (hy:ys.length=6):Dt Tryz.prog S 30 (.ptr id 2) (.agg ys)=some (S.put id (eqC lv a ys)):=by
 have h2:(AV.agg ys).noTup=true:=rfl
 have e:List.drop 6 xs=[]:=List.drop_eq_nil_of_le (by omega)
 simp [Dt,h,s30,h2,AV.cells,hx,hy,St.put,eqC,e]
theorem Z9 {kid:Nat → PR PE} {i:Nat} (h:Hm kid i ≠ .out):kid i ≠ .out:=fun e=>h (by unfold Hm; rw [e]; rfl)
include hts
theorem eq_p (h2p:2 ≤ p) (n:Nat) (hn:n ≤ 1000000) (S:St) (i:Nat) (h:Cur S p k ts i) (hp:p < S.next) (hi:i < ts.length) (ho:eqP ts n i ≠ .out):WC E1 128 [.ptr p 0] S (Re p k ts S Zl (eqP ts n i)):=by
 have eP:eqP ts n i=(J9 ts n i).bind fun ls j=>(Ef ts [[61]] j).bind fun _ j=>if (tk ts j).text ∈ [[97,115,121,110,99]] then (Hm (P ts n .call) (j + 1)).bind fun e m=>(Ef ts [[59]] m).bind fun _ m=>.ok ⟨ls,true,e⟩ m else (Hm (P ts n .expr) j).bind fun e m=>(Ef ts [[59]] m).bind fun _ m=>.ok ⟨ls,false,e⟩ m:=rfl
 rw [eP] at ho ⊢
 clear eP
 have rd:Reads p k ts n:=Sl hts h2p n hn
 refine Dv Tryz.f128 (by kernel_rfl) (by kernel_rfl) (by kernel_rfl) (by show (_:Nat) ≤ _;simp [Tryz.f128]) ?_
 obtain ⟨fn1,hf1⟩:=fnOk158
 obtain ⟨fn2,hf2⟩:=Qa
 obtain ⟨fn3,hf3⟩:=Lj
 obtain ⟨fn4,hf4⟩:=fnOk46
 obtain ⟨x1,c1,br,hp1⟩:=openB sY h hp
 have y2:=x1
 simp only [A6,Bk,A4,Be,A7,Bf,Bh,Bd,A5,Bc,Ba,Ce,A0,A1,Bm,B5,ofOpt,ofOptS,Cp,Nat.reduceLT,Nat.reduceEqDiff,Aa,Ab,Ac,Ae,Aj,Ak,Tryz.f128,hf1,alo57]
 have ne1:=Gp ho
 refine WC.mono (lefts_p hts h2p n hn _ _ c1 hp1 hi ne1) ?_
 cases hX3:J9 ts n i with
 | out=>exact absurd hX3 ne1
 | bad a e =>
  rintro _ ⟨S3,rfl,x3⟩
  simp only [Cl,Cq,Cg]
  exact ⟨_,rfl,y2.trans x3⟩
 | ok ls j3 =>
  rw [hX3] at ho; rw [D2] at ho ⊢
  rintro _ ⟨lv,S3,rfl,hlv,x3,c3,hi3⟩
  have hp3:p < S3.next:=Nat.lt_of_lt_of_le hp1 x3.1
  have y4:=(y2).trans x3
  have br_4:=br.keep x3
  have bq:=b57 lv ls hlv
  obtain ⟨S5,q5,x5,c5,bd,hp5⟩:=boxG2 bN sY rfl c3 hp3 (xs:=eqC lv false exZ) rfl
  have y6:=(y4).trans x5
  have br_6:=br_4.keep x5
  have hne:S3.next ≠ S.next:=by have:=br_4.lt; omega
  simp only [A6,Bk,A4,Be,A7,Bf,Br,Bh,Bu,Bd,Bp,A5,Bc,Ba,A0,A1,Bm,B5,ofOpt,ofOptS,Bb,Cp,Bz,Nat.reduceLT,Nat.reduceEqDiff,Aa,Ab,Ac,Aj,Ak,fp0,Ec,hf2,alo57,bq,q5]
  refine WC.mono (Jc c5 hp5 hi3 hts 1 0 [[61]] (by decide) (by decide)) ?_
  cases hX7:Ef ts [[61]] j3 with
  | out=>exact absurd hX7 (G3 _ _ _)
  | bad a e =>
   rintro _ ⟨S7,rfl,x7⟩
   simp only [Cl,Cq,Cg]
   exact ⟨_,rfl,y6.trans x7⟩
  | ok a7 j7 =>
   rw [hX7] at ho; rw [D2] at ho ⊢
   rintro _ ⟨_,S7,rfl,rfl,x7,c7,hi7⟩
   have hp7:p < S7.next:=Nat.lt_of_lt_of_le hp5 x7.1
   have y8:=(y6).trans x7
   have br_8:=br_6.keep x7
   have bd_8:=bd.keep x7
   by_cases hm:(tk ts j7).text ∈ [[97,115,121,110,99]]
   ·rw [if_pos hm] at ho ⊢
    simp only [A6,Bk,A4,Be,A7,Bf,Bh,Bd,Bp,A5,Bc,Ba,A0,A1,Bm,B5,ofOpt,Bb,Cp,Bz,Nat.reduceLT,Nat.reduceEqDiff,Aa,Ab,Ac,Aj,Ak,fp0,Ec,hf3]
    refine WC.mono (L4 c7 hp7 hi7 hts 1 0 [[97,115,121,110,99]] (by decide) (by decide) hm) ?_
    rintro _ ⟨S9,rfl,x9,c9,hi9,hp9⟩
    have y10:=(y8).trans x9
    have br_10:=br_8.keep x9
    have bd_10:=bd_8.keep x9
    have st809:=st57_1 bd_10.get true
    obtain ⟨px809,pc809,pb809,pr809⟩:=Zj (ys:=eqC lv true exZ) y10 y4.1 bd_10 c9 br_10 hne
    have la9:=ld57_1 pb809.get
    simp only [A6,Bk,Bl,A4,Be,A7,Bf,Br,Bh,Bu,Bd,Bp,De,A5,Bc,Ba,A0,A1,Bm,B5,ofOpt,Cp,Nat.reduceLT,Nat.reduceEqDiff,Aa,Ab,Ac,Ag,Ah,Aj,Ak,Cw,hf4,fq1,st809,la9]
    have ne2:=Gp ho
    refine WC.mono (fR hts 159 (P ts n .call) fnOk159 rd.call (sT n hn .call) _ _ pc809 hp9 hi9 (Z9 ne2)) ?_
    cases hX11:Hm (P ts n .call) (j7 + 1) with
    | out=>exact absurd hX11 ne2
    | bad a e =>
     rintro _ ⟨S11,rfl,x11⟩
     simp only [Cl,Cq,Cg]
     exact ⟨_,rfl,px809.trans x11⟩
    | ok a11 j11 =>
     rw [hX11] at ho; rw [D2] at ho ⊢
     rintro _ ⟨v11,S11,rfl,hr11,x11,c11,hi11⟩
     obtain ⟨xs11,rfl,hl11⟩:=RepE.agg hr11
     have rf11:=RepE.refl hr11
     have hp11:p < S11.next:=Nat.lt_of_lt_of_le hp9 x11.1
     have y12:=(px809).trans x11
     have bd_12:=pb809.keep x11
     have br_12:=pr809.keep x11
     have st859:=st57_2 (a:=true) bd_12.get rfl hl11
     obtain ⟨px859,pc859,pb859,pr859⟩:=Zj (ys:=eqC lv true xs11) y12 y4.1 bd_12 c11 br_12 hne
     simp only [A6,Bk,A4,Be,A7,Bf,Br,Bh,Bu,Bd,Bp,A5,Bc,Ba,A0,A1,Bm,B5,ofOpt,Bb,Cp,Bz,Nat.reduceLT,Nat.reduceEqDiff,Aa,Ab,Ac,Aj,Ak,fp0,Ec,hf2,fq2,st859]
     refine WC.mono (Jc pc859 hp11 hi11 hts 1 0 [[59]] (by decide) (by decide)) ?_
     cases hX13:Ef ts [[59]] j11 with
     | out=>exact absurd hX13 (G3 _ _ _)
     | bad a e =>
      rintro _ ⟨S13,rfl,x13⟩
      simp only [Cl,Cq,Cg]
      exact ⟨_,rfl,px859.trans x13⟩
     | ok a13 j13 =>
      rw [hX13] at ho; rw [D2] at ho ⊢
      rintro _ ⟨_,S13,rfl,rfl,x13,c13,hi13⟩
      have hp13:p < S13.next:=Nat.lt_of_lt_of_le hp11 x13.1
      have y14:=(px859).trans x13
      have bd_14:=pb859.keep x13
      have br_14:=pr859.keep x13
      have lz:=ldG ag57 bN bd_14.get (show (eqC lv true xs11).length=8 by simp [eqC,hl11])
      obtain ⟨g15,h15,gx,gc⟩:=dJ ag57 bN (S0:=S) c13 br_14 rfl (Nat.le_refl _) y14 (xs:=eqC lv true xs11) (by simp [eqC,hl11])
      simp only [A6,Bk,B1,A4,Be,A7,Bf,Br,Bu,Bd,Bp,A5,Bc,Ba,A0,A1,ofOpt,Cp,Bi,B0,Bg,Cs,Nat.reduceLT,Nat.reduceEqDiff,Aa,Ab,Ac,lz,g15,h15]
      exact ⟨_,_,rfl,⟨lv,xs11,rfl,hlv,hl11,hr11⟩,gx,gc,hi13⟩
   ·rw [if_neg hm] at ho ⊢
    simp only [A6,Bk,A4,Be,A7,Bf,Bh,Bd,Bp,A5,Bc,Ba,A0,A1,Bm,B5,ofOpt,Bb,Cp,Bz,Nat.reduceLT,Nat.reduceEqDiff,Aa,Ab,Ac,Aj,Ak,fp0,Ec,hf3]
    refine WC.mono (Np c7 hp7 hi7 hts 1 0 [[97,115,121,110,99]] (by decide) hm) ?_
    rintro _ ⟨S16,rfl,x16,c16,hi16,hp16⟩
    have y17:=(y8).trans x16
    have br_17:=br_8.keep x16
    have bd_17:=bd_8.keep x16
    have st816:=st57_1 bd_17.get false
    obtain ⟨px816,pc816,pb816,pr816⟩:=Zj (ys:=eqC lv false exZ) y17 y4.1 bd_17 c16 br_17 hne
    have la16:=ld57_1 pb816.get
    simp only [A6,Bk,Bl,A4,Be,A7,Bf,Br,Bh,Bu,Bd,Bp,C8,A5,Bc,Ba,A0,A1,Bm,B5,ofOpt,Cp,Nat.reduceLT,Nat.reduceEqDiff,Aa,Ab,Ac,Ag,Ah,Aj,Ak,Cw,hf4,fq1,st816,la16]
    have ne2:=Gp ho
    refine WC.mono (fR hts 47 (P ts n .expr) qV rd.expr (sT n hn .expr) _ _ pc816 hp16 hi16 (Z9 ne2)) ?_
    cases hX18:Hm (P ts n .expr) j7 with
    | out=>exact absurd hX18 ne2
    | bad a e =>
     rintro _ ⟨S18,rfl,x18⟩
     simp only [Cl,Cq,Cg]
     exact ⟨_,rfl,px816.trans x18⟩
    | ok a18 j18 =>
     rw [hX18] at ho; rw [D2] at ho ⊢
     rintro _ ⟨v18,S18,rfl,hr18,x18,c18,hi18⟩
     obtain ⟨xs18,rfl,hl18⟩:=RepE.agg hr18
     have rf18:=RepE.refl hr18
     have hp18:p < S18.next:=Nat.lt_of_lt_of_le hp16 x18.1
     have y19:=(px816).trans x18
     have bd_19:=pb816.keep x18
     have br_19:=pr816.keep x18
     have st866:=st57_2 (a:=false) bd_19.get rfl hl18
     obtain ⟨px866,pc866,pb866,pr866⟩:=Zj (ys:=eqC lv false xs18) y19 y4.1 bd_19 c18 br_19 hne
     simp only [A6,Bk,A4,Be,A7,Bf,Br,Bh,Bu,Bd,Bp,A5,Bc,Ba,A0,A1,Bm,B5,ofOpt,Bb,Cp,Bz,Nat.reduceLT,Nat.reduceEqDiff,Aa,Ab,Ac,Aj,Ak,fp0,Ec,hf2,fq2,st866]
     refine WC.mono (Jc pc866 hp18 hi18 hts 1 0 [[59]] (by decide) (by decide)) ?_
     cases hX20:Ef ts [[59]] j18 with
     | out=>exact absurd hX20 (G3 _ _ _)
     | bad a e =>
      rintro _ ⟨S20,rfl,x20⟩
      simp only [Cl,Cq,Cg]
      exact ⟨_,rfl,px866.trans x20⟩
     | ok a20 j20 =>
      rw [hX20] at ho; rw [D2] at ho ⊢
      rintro _ ⟨_,S20,rfl,rfl,x20,c20,hi20⟩
      have hp20:p < S20.next:=Nat.lt_of_lt_of_le hp18 x20.1
      have y21:=(px866).trans x20
      have bd_21:=pb866.keep x20
      have br_21:=pr866.keep x20
      have lz:=ldG ag57 bN bd_21.get (show (eqC lv false xs18).length=8 by simp [eqC,hl18])
      obtain ⟨g22,h22,gx,gc⟩:=dJ ag57 bN (S0:=S) c20 br_21 rfl (Nat.le_refl _) y21 (xs:=eqC lv false xs18) (by simp [eqC,hl18])
      simp only [A6,Bk,B1,A4,Be,A7,Bf,Br,Bu,Bd,Bp,A5,Bc,Ba,A0,A1,ofOpt,Cp,Bi,B0,Bg,Cs,Nat.reduceLT,Nat.reduceEqDiff,Aa,Ab,Ac,lz,g22,h22]
      exact ⟨_,_,rfl,⟨lv,xs18,rfl,hlv,hl18,hr18⟩,gx,gc,hi20⟩
end
theorem fnOk128:∃ fn,E1.F 128=some fn:=Option.isSome_iff_exists.1 (by kernel_rfl)
inductive EqRows:List AV → List PQ → Prop where
 | nil:EqRows [] []
 | cons (a:AV) (q:PQ) (r:List AV) (l:List PQ) (h:Zl a q) (h2:EqRows r l):EqRows (a :: r) (q :: l)
theorem EqRows.app:∀ {es:List AV} {l:List PQ} {a:AV} {e:PQ},EqRows es l → Zl a e → EqRows (es ++ [a]) (l ++ [e]):=fun {es l a e} h h2=>by
 induction es generalizing l with
 | nil=>cases h; exact .cons _ _ _ _ h2 .nil
 | cons x r ih=>cases h with
  | cons _ e2 _ l2 h3 h4=>exact .cons _ _ _ _ h3 (ih h4)
theorem EqRows.len:∀ {es:List AV} {l:List PQ},EqRows es l → es.length=l.length:=fun {es l} h=>by
 induction es generalizing l with
 | nil=>cases h; rfl
 | cons a r ih=>cases h with
  | cons _ e _ l2 h h2=>simp [ih h2]
def iZ (lo:Nat) (S:St) (a:AV) (es:List AV):Prop:=(a=.nils ∧ es=[]) ∨ ∃ tok,a=.sl tok 0 8 es ∧ 2 ≤ tok ∧ lo ≤ tok ∧ tok < S.next ∧ S.mem.get tok=some (.tip (es.length * 8))
theorem iZ.keep {lo p:Nat} {S S':St} {a:AV} {es:List AV} (h:iZ lo S a es) (k:D7 p S S') (hp:p < lo):iZ lo S' a es:=by
 rcases h with h | ⟨tok,h0,h1,h2,h3,h4⟩
 ·exact .inl h
 ·exact .inr ⟨tok,h0,h1,h2,Nat.lt_of_lt_of_le h3 k.1,by rw [k.2 tok h3 (by omega)]; exact h4⟩
theorem iZ.put {lo:Nat} {S:St} {a:AV} {es:List AV} (h:iZ lo S a es) {b:Nat} {cs ys:List AV} (hb:S.mem.get b=some (.box cs)):iZ lo (S.put b ys) a es:=by
 rcases h with h | ⟨tok,h0,h1,h2,h3,h4⟩
 ·exact .inl h
 ·refine .inr ⟨tok,h0,h1,h2,h3,?_⟩
  rw [Eg (fun e=>by subst e; rw [h4] at hb; cases hb)]
  exact h4
theorem i57:(Tryz.prog.info? 57).map (fun i=>(i.zero,i.size,i.bytes))=some (some (.agg #[.slice none 0 0,.bool false,.int .i64 0,.int .i64 0,.int .i64 0,.string ⟨#[]⟩,.bool false,.slice none 0 0]),8,104):=by kernel_rfl
theorem el47:Ir Tryz.prog 47=some (none,57):=by kernel_rfl
theorem un47:Tryz.prog.underlying 47=some (.slice 57):=by kernel_rfl
theorem zr57:Mi Tryz.prog 57=some (.agg sY):=by kernel_rfl
theorem row47_1 (xs:List AV) (hx:xs.length=8):Dw Tryz.prog 47 1 [(0,.agg xs)]=some (.sl 1 0 8 [.agg xs]):=by
 simp [Dw,el47,bN,zr57,Ca,Cb,hx]
theorem app47 (S:St) (a b:AV):Gw E1 S 47 47 a b=(match I9 Tryz.prog S 47 47 false a b with | some r=>some r | none=>Fh Tryz.prog S 47 47 a b):=rfl
theorem push47 {lo:Nat} {S:St} {a:AV} {es:List AV} (h:iZ lo S a es) (hn:2 ≤ S.next) (hlo:lo ≤ S.next) (xs:List AV) (hx:xs.length=8) (hl:es.length ≤ 2000000) :
  ∃ S',Gw E1 S 47 47 a (.sl 1 0 8 [.agg xs])=some (.sl S.next 0 8 (es ++ [.agg xs]),S') ∧ iZ lo S' (.sl S.next 0 8 (es ++ [.agg xs])) (es ++ [.agg xs]) ∧ S.next < S'.next ∧ ∀ id,id < lo ∨ (∃ cs,id < S.next ∧ S.mem.get id=some (.box cs)) → S'.mem.get id=S.mem.get id:=by
 obtain ⟨i,hi,hz0,hz1,hz2⟩:=Hb i57
 have hb1:(es.length + 1) * 104 ≤ 140737488355328:=by omega
 have hb2:es.length + 1 ≤ 9223372036854775807:=by omega
 rw [app47]
 rcases h with ⟨rfl,rfl⟩ | ⟨tok,rfl,h1,h2,h3,h5⟩
 ·have hM:I9 Tryz.prog S 47 47 false .nils (.sl 1 0 8 [.agg xs])=none:=by
   simp [I9,el47,hi,hz0,hz1,hz2,Mr,un47,Value.cells]
  rw [hM]
  refine ⟨S.grown 1 (([] ++ [AV.agg xs]).length * 8),?_,.inr ⟨_,rfl,hn,hlo,Nat.lt_succ_self _,?_⟩,Nat.lt_succ_self _,fun id hid=>?_⟩
  ·simp [Fh,el47,hi,hz0,hz1,hz2,Mr,un47,Value.cells]
  ·show (S.mem.set S.next _).get S.next=_
   rw [T.get_set,if_pos rfl]
  ·show (S.mem.set S.next _).get id=_
   rw [T.get_set,if_neg (by rcases hid with h | ⟨_,h,_⟩ <;> omega)]
 ·obtain ⟨k,rfl⟩:∃ k,tok=k + 2:=⟨tok - 2,by omega⟩
  have hM:I9 Tryz.prog S 47 47 false (.sl (k + 2) 0 8 es) (.sl 1 0 8 [.agg xs])=none:=by
   simp [I9,el47,hi,hz0,hz1,hz2,Mr,un47,Value.cells]
  rw [hM]
  refine ⟨S.grown (k + 2) ((es ++ [AV.agg xs]).length * 8),?_,.inr ⟨_,rfl,hn,hlo,Nat.lt_succ_self _,?_⟩,Nat.lt_succ_self _,fun id hid=>?_⟩
  ·simp [Fh,el47,hi,hz0,hz1,hz2,Mr,un47,Value.cells,Px,h5,hb1,hb2]
  ·show ((S.mem.set (k + 2) none).set S.next _).get S.next=_
   rw [T.get_set,if_pos rfl]
  ·show ((S.mem.set (k + 2) none).set S.next _).get id=_
   rw [T.get_set,if_neg (by rcases hid with h | ⟨_,h,_⟩ <;> omega),T.get_set,if_neg (fun e=>by
    subst e
    rcases hid with h | ⟨_,_,h⟩
    ·omega
    ·rw [h5] at h; cases h)]
structure PN where
 name:List UInt8
 pos:Nat
 ins:List PD
 outs:List PD
 vars:List PD
 eqs:List PQ
def Fg (nm:List UInt8) (pos:Nat) (a b c d:AV):List AV:=[Bt nm,Dq pos,a,b,c,d]
theorem Vp:Fo Tryz.prog 49=some true:=by kernel_rfl
theorem N4:Fu Tryz.prog 49=some 6:=by kernel_rfl
def Me:List AV:=Fg [] 0 .nils .nils .nils .nils
theorem sM (S:St):Js Tryz.prog S 49=some (.ptr S.next 0,S.newBox Me):=by kernel_rfl
theorem fn5 (b:Nat):C2 Tryz.prog 49 (.ptr b 0) 5=some (.ptr b 5):=by kernel_rfl
theorem ld49_5 {S:St} {id:Nat} {nm:List UInt8} {pos:Nat} {a b c d:AV} (h:S.mem.get id=some (.box (Fg nm pos a b c d))):Cd Tryz.prog S 47 (.ptr id 5)=some d:=by
 have a47:Fo Tryz.prog 47=some false:=by kernel_rfl
 simp [Cd,D0,h,a47,Fg]
theorem st49_5 {S:St} {id:Nat} {nm:List UInt8} {pos:Nat} {a b c d:AV} (h:S.mem.get id=some (.box (Fg nm pos a b c d))) (tok off:Nat) (es:List AV):Dt Tryz.prog S 47 (.ptr id 5) (.sl tok off 8 es)=some (S.put id (Fg nm pos a b c (.sl tok off 8 es))):=by
 have h2:(AV.sl tok off 8 es).noTup=true:=rfl
 have h3:(AV.sl tok off 8 es).cells=[.sl tok off 8 es]:=rfl
 have s47:Fu Tryz.prog 47=some 1:=by kernel_rfl
 simp [Dt,h,s47,h2,h3,St.put,Fg]
def Rm (ts:List Tk) (N:Nat):Nat → List PQ → Nat → PR (List PQ)
 | 0,_,_=>.out
 | n + 1,l,i=>if (tk ts i).text ∈ [[116,101,108]] then .ok l i else (eqP ts N i).bind fun q j=>Rm ts N n (l ++ [q]) j
def eqsBody:Code:=match Tryz.f90.body with
 | some (.seq _ (.seq _ (.seq _ (.seq _ (.seq _ (.seq _ (.seq _ (.seq _ (.seq _ (.seq (.block _ (.loop c)) _))))))))))=>c
 | some (.seq _ (.seq _ (.seq _ (.seq _ (.seq _ (.seq _ (.seq _ (.seq _ (.seq _ (.seq _ (.seq (.block _ (.loop c)) _)))))))))))=>c
 | some (.seq _ (.seq _ (.seq _ (.seq _ (.seq _ (.seq _ (.seq _ (.seq _ (.seq _ (.seq _ (.seq _ (.seq (.block _ (.loop c)) _))))))))))))=>c
 | _=>.skip
theorem isRow_refl {v:AV} {l:List (List UInt8 × Nat)} (h:F2 2 Hr v l):Gj v v=true:=by
 rcases h with ⟨rfl,_⟩ | ⟨tok,off,rfl⟩
 ·rfl
 ·have e:Mo (l.map Hr) (l.map Hr)=true:=by
   induction l with
   | nil=>rfl
   | cons a r ih=>simp [Mo,ih,Gj,Hr,Ib,Bt,Dq,eqS,Jk]
  simp [Gj,e]
theorem Zl.refl {v:AV} {q:PQ} (h:Zl v q):Gj v v=true:=by
 obtain ⟨lv,xs,rfl,h1,h2,h3⟩:=h
 simp [eqC,Gj,Mo,isRow_refl h1,Iv h3,eqS]
theorem EqRows.refl:∀ {es:List AV} {l:List PQ},EqRows es l → Mo es es=true:=fun {es l} h=>by
 induction es generalizing l with
 | nil=>rfl
 | cons a r ih=>cases h with
  | cons _ e _ l2 h h2=>simp [Mo,h.refl,ih h2]
theorem iZ.refl {lo:Nat} {S:St} {a:AV} {es:List AV} {l:List PQ} (h:iZ lo S a es) (h2:EqRows es l):Gj a a=true:=by
 rcases h with ⟨rfl,_⟩ | ⟨tok,rfl,_⟩
 ·rfl
 ·simp [Gj,h2.refl]
def LoopEqs (p k:Nat) (ts:List Tk) (S0:St) (rb b4:Nat) (nm:List UInt8) (pos:Nat) (a b c:AV) (x:PR (List PQ)) (r:O):Prop :=
 (∃ t' S' d es l i',r=.out (.exit 0) ⟨t',[]⟩ S' ∧ t'.get 0=some (.ptr p 0) ∧ t'.get 2=some (.ptr rb 0) ∧ t'.get 4=some (.ptr b4 0) ∧ Has p S' rb Me ∧ Has p S' b4 (Fg nm pos a b c d) ∧ iZ S0.next S' d es ∧ EqRows es l ∧ D7 p S0 S' ∧ Cur S' p k ts i' ∧ i' < ts.length ∧ p < S'.next ∧ x=.ok l i') ∨
 (∃ t' S' a e,r=.out (.pan (Zm a e)) ⟨t',[]⟩ S' ∧ D7 p S0 S' ∧ x=.bad a e)
section
variable {p k:Nat} {ts:List Tk} (hts:TokOk ts)
include hts
theorem rD (h2p:2 ≤ p) (N:Nat) (hN:N ≤ 1000000) (S0:St) (hp0:p < S0.next) (rb b4:Nat) (hrb:S0.next ≤ rb) (hb4:S0.next ≤ b4) (hne:b4 ≠ rb) (nm:List UInt8) (pos:Nat) (a b c:AV):∀ (n:Nat) (l:List PQ) (i:Nat) (t:T AV) (S:St) (d:AV) (es:List AV),Rm ts N n l i ≠ .out → n + l.length ≤ 2000000 →
  t.get 0=some (.ptr p 0) → t.get 2=some (.ptr rb 0) → t.get 4=some (.ptr b4 0) → Cur S p k ts i → p < S.next → i < ts.length → Has p S rb Me → Has p S b4 (Fg nm pos a b c d) → iZ S0.next S d es → EqRows es l → D7 p S0 S →
  WX E1 72 (.loop eqsBody) ⟨t,[]⟩ S (LoopEqs p k ts S0 rb b4 nm pos a b c (Rm ts N n l i))
 | 0,l,i,t,S,d,es,ho,hnl,h0,h2,h4,h,hp,hi,hr,hb,hq,hf,hx=>absurd rfl ho
 | n + 1,l,i,t,S,d,es,ho,hnl,h0,h2,h4,h,hp,hi,hr,hb,hq,hf,hx=>by
  refine Do (Dh ?_)
  obtain ⟨fn1,hf1⟩:=X3
  obtain ⟨fn2,hf2⟩:=fnOk128
  have eP:Rm ts N (n + 1) l i=if (tk ts i).text ∈ [[116,101,108]] then .ok l i else (eqP ts N i).bind fun q j=>Rm ts N n (l ++ [q]) j:=rfl
  rw [eP] at ho ⊢
  clear eP
  have e0:=Nn hi
  simp only [A6,Bk,A7,Bf,Bh,Bd,A5,Bc,Ba,A0,Bm,B5,ofOpt,Bb,Cp,Bz,Nat.reduceLT,Nat.reduceEqDiff,Aa,Ab,Ac,Aj,Ak,Tryz.f90,fp0,Ec,hf1,h0,eqsBody]
  refine WC.mono (Si _ p k ts i h hp hi 1 0 [[116,101,108]] (by decide)) ?_
  rintro _ ⟨S1,rfl,k1⟩
  have x1:=k1.x p
  have c1:=h.keep hp k1
  have hp1:p < S1.next:=Nat.lt_of_lt_of_le hp x1.1
  have y2:=(hx).trans x1
  have br_2:=hr.keep x1
  have bd_2:=hb.keep x1
  rw [← e0]
  by_cases hm:(tk ts i).text ∈ [[116,101,108]]
  ·rw [if_pos hm]
   rw [decide_eq_true hm]
   simp only [Bv,Bo,Co,Bl,Bq,C1,A4,C7,Be,A7,Bf,Bd,Bp,C8,A5,Bc,Ba,A0,Cp,Fj,C6,Db,Nat.reduceLT,Nat.reduceEqDiff,Aa,Ab,Ac,Ar]
   exact .inl ⟨_,_,d,es,l,i,rfl,by simp [T.get_set,h0],by simp [T.get_set,h2],by simp [T.get_set,h4],br_2,bd_2,hq.keep x1 hp0,hf,y2,c1,hi,hp1,rfl⟩
  ·rw [if_neg hm] at ho ⊢
   rw [decide_eq_false hm]
   simp only [Bv,Bo,Co,Bl,Bq,C1,A4,C7,Be,A7,Bf,Bd,Bp,De,A5,Bc,Ba,A0,Cp,Fj,C6,Db,Nat.reduceLT,Nat.reduceEqDiff,Aa,Ab,Ac,Au]
   refine Fv [(0,true),(1,true),(2,true),(3,true),(1,false),(4,true),(5,true),(6,true),(7,true)] (by kernel_rfl) (by kernel_rfl) ?_
   have ld1:=ld49_5 bd_2.get
   simp only [A5,Bc,Ba,A0,Bm,B5,ofOpt,Cp,Nat.reduceLT,Nat.reduceEqDiff,Aa,Ab,Ac,Af,Ag,Ah,Aj,Ak,Am,Dr,Ee,Eb,Du,F4,hf2,h0,h4,fn5,ld1]
   have ne1:=Gp ho
   refine WC.mono (eq_p hts h2p N hN _ _ c1 hp1 hi ne1) ?_
   cases hX3:eqP ts N i with
   | out=>exact absurd hX3 ne1
   | bad a e =>
    rintro _ ⟨S3,rfl,x3⟩
    simp only [Dy,Dc,Fp,F7]
    exact .inr ⟨_,_,_,_,rfl,y2.trans x3,rfl⟩
   | ok a3 j3 =>
    rw [hX3] at ho; rw [D2] at ho ⊢
    rintro _ ⟨_,S3,rfl,⟨lv,xs,rfl,hlv,hxl,hrx⟩,x3,c3,hi3⟩
    have hp3:p < S3.next:=Nat.lt_of_lt_of_le hp1 x3.1
    have y4:=(y2).trans x3
    have br_4:=br_2.keep x3
    have bd_4:=bd_2.keep x3
    have hxq:(eqC lv a3.async xs).length=8:=by simp [eqC,hxl]
    have ld2:=ld49_5 bd_4.get
    have bq:=hq.refl hf
    have rw1:=row47_1 (eqC lv a3.async xs) hxq
    have hq2:iZ S0.next S3 d es:=hq.keep ((x1).trans x3) hp0
    have hle:=y4.1
    obtain ⟨S5,a5,r5,n5,k5⟩:=push47 hq2 (by omega) hle (eqC lv a3.async xs) hxq (by rw [hf.len]; omega)
    have st1:=st49_5 (S:=S5) ((k5 b4 (.inr ⟨_,bd_4.lt,bd_4.get⟩)).trans bd_4.get) S3.next 0 (es ++ [.agg (eqC lv a3.async xs)])
    have hb9:Has p S5 b4 (Fg nm pos a b c d):=⟨(k5 b4 (.inr ⟨_,bd_4.lt,bd_4.get⟩)).trans bd_4.get,Nat.lt_trans bd_4.lt n5,bd_4.ne⟩
    have hr9:Has p S5 rb Me:=⟨(k5 rb (.inr ⟨_,br_4.lt,br_4.get⟩)).trans br_4.get,Nat.lt_trans br_4.lt n5,br_4.ne⟩
    have z9:D7 p S0 S5:=⟨Nat.le_trans hle (Nat.le_of_lt n5),fun id hid hn=>(k5 id (.inl hid)).trans (y4.2 id hid hn)⟩
    have c9:Cur S5 p k ts j3:=(k5 p (.inl hp0)).trans c3
    obtain ⟨px,pc,pb,pr⟩:=Zj (ys:=Fg nm pos a b c (.sl S3.next 0 8 (es ++ [.agg (eqC lv a3.async xs)]))) z9 hb4 hb9 c9 hr9 hne
    simp only [Bw,Cf,A5,Bc,Ba,A0,Bm,ofOpt,ofOptS,Cp,Bz,Nat.reduceLT,Nat.reduceEqDiff,Aa,Ab,Ac,D9,Dr,Kf,Ee,Fb,Fa,Du,Ep,Ei,D6,Em,h4,fn5,ld2,bq,rw1,a5,st1]
    exact rD h2p N hN S0 hp0 rb b4 hrb hb4 hne nm pos a b c n _ _ _ _ _ _ ho (by rw [List.length_append]; simp; omega) (by simp [T.get_set,h0]) (by simp [T.get_set,h2]) (by simp [T.get_set,h4]) pc (Nat.lt_trans hp3 n5) hi3 pr pb (r5.put hb9.get) (hf.app ⟨lv,xs,rfl,hlv,hxl,hrx⟩) px
end
end Go.Ax
