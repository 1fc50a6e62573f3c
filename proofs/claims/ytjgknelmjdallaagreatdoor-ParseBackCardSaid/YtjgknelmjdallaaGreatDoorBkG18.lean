/- Ph -/
import Derived.Test.YtjgknelmjdallaaGreatDoorBkPg
import Derived.Test.YtjgknelmjdallaaGreatDoorBkG12
set_option linter.unusedVariables false
set_option linter.unusedSimpArgs false
noncomputable section
namespace Go.Ax
open Go.RowKit Go.Proofs
set_option maxRecDepth 100000
theorem A4 {E:Env} {n:Nat} {f:Fr} {S:St} {Q:O → Prop} {b:Code}:mA E n b Q (.out .normal f S)=W E n b f S Q:=id rfl
theorem Bh {E:Env} {n:Nat} {f:Fr} {S:St} {Q:O → Prop} {ops:Array Oper}:WL E n ops [] f S Q=Q (.out .normal f S):=id rfl
theorem Ew {E:Env} {n:Nat} {f:Fr} {S:St} {Q:O → Prop} {ops:Array Oper}:WR E n ops [] f S Q=Q (.out .normal f S):=id rfl
section
variable {S:St} {p k i T n:Nat} {ts:List Tk}
theorem ldG (ha:Fm Tryz.prog T=some true) (hs:Fo Tryz.prog T=some n) {id:Nat} {cs:List AV} (h:S.mem.get id=some (.box cs)) (hl:cs.length=n):C3 Tryz.prog S T (.ptr id 0)=some (.agg cs):=by
 have e:cs.take n=cs:=List.take_of_length_le (by omega)
 simp [C3,Dr,h,ha,hs,hl,e]
end
structure PD where
 name:List UInt8
 pos:Nat
 bool:Bool
 fut:Bool
 clock:List UInt8
 off:Bool
def G2 (d:PD):List AV:=[Bp d.name,D0 d.pos,.v (.bool d.bool),.v (.bool d.fut),Bp d.clock,.v (.bool d.off)]
def He (d:PD):AV:=.agg (G2 d)
def H8 (d:List UInt8 × Nat):List AV:=[Bp d.1,D0 d.2]
def G1 (d:List UInt8 × Nat):AV:=.agg (H8 d)
section
variable {p k:Nat} {ts:List Tk} (hts:TokOk ts)
include hts
omit hts
end
def Tz (sz lo:Nat) (S:St) (tok:Nat) (es:List AV):Prop:=tok=1 ∨ (2 ≤ tok ∧ lo ≤ tok ∧ tok < S.next ∧ S.mem.get tok=some (.tip (es.length * sz)))
theorem Tz.keep {sz lo p:Nat} {S S':St} {tok:Nat} {es:List AV} (h:Tz sz lo S tok es) (k:Ez p S S') (hp:p < lo):Tz sz lo S' tok es:=by
 rcases h with h | ⟨h1,h2,h3,h4⟩
 ·exact .inl h
 ·exact .inr ⟨h1,h2,Nat.lt_of_lt_of_le h3 k.1,by rw [k.2 tok h3 (by omega)]; exact h4⟩
def I5 {α:Type} (sz:Nat) (A:α → AV) (v:AV) (l:List α):Prop:=(v=.nils ∧ l=[]) ∨ ∃ tok off,v=.sl tok off sz (l.map A)
section
variable {p k:Nat} {ts:List Tk} (hts:TokOk ts)
include hts
end
section
variable {p k:Nat} {ts:List Tk} (hts:TokOk ts)
include hts
end
section
end
end Go.Ax
noncomputable section
namespace Go.Ax
open Go.RowKit Go.Proofs
set_option maxRecDepth 100000
section
variable {p k:Nat} {ts:List Tk} (hts:TokOk ts)
include hts
omit hts
include hts
end
end Go.Ax
noncomputable section
namespace Go.Ax
open Go.RowKit Go.Proofs
set_option maxRecDepth 100000
def mT (x y:Value):Operand → Value:=fun z=>match z with
 | .tmp 0=>x
 | _=>y
theorem max_eq (F:Operand → Value) (dst:Option Tmp) (k l:Tmp) (ty:TypeId) (pos:String) (af:Array Edge) (gd:Option (Nat × Bool)):execOp F { dst:=dst,op:=.call { callee:=.builtin .max,args:=#[.tmp k,.tmp l],argTypes:=#[3,3] },type:=ty,pos:=pos,after:=af,guard:=gd }=execOp (mT (F (.tmp k)) (F (.tmp l))) { dst:=none,op:=.call { callee:=.builtin .max,args:=#[.tmp 0,.tmp 1],argTypes:=#[3,3] },type:=ty,pos := "", after:=#[],guard:=none }:=by kernel_rfl
theorem max_val (a b:Int) (ty:TypeId):P3 Tryz.prog 4000 (execOp (mT (.int .i64 a) (.int .i64 b)) { dst:=none,op:=.call { callee:=.builtin .max,args:=#[.tmp 0,.tmp 1],argTypes:=#[3,3] },type:=ty,pos := "", after:=#[],guard:=none })=some (.int .i64 (if b > a then b else a)):=by kernel_rfl
def maxX (P:Program) (G:Gl) (f:T AV) (S:St) (o:Oper):OR:=ground P G f S o
def maxO (r:OR) (S:St) (x y:Option AV):OR:=match x,y with
 | some (.v (.int .i64 a)),some (.v (.int .i64 b))=>.val (.v (.int .i64 (if b > a then b else a))) S
 | _,_=>r
theorem maxO_ii (r:OR) (S:St) (a b:Int):maxO r S (some (.v (.int .i64 a))) (some (.v (.int .i64 b)))=.val (.v (.int .i64 (if b > a then b else a))) S:=rfl
theorem vU (f:T AV) (S:St) (dst:Option Tmp) (k l:Tmp) (ty:TypeId) (pos:String) (af:Array Edge) (gd:Option (Nat × Bool)) :
  ground Tryz.prog gR f S { dst:=dst,op:=.call { callee:=.builtin .max,args:=#[.tmp k,.tmp l],argTypes:=#[3,3] },type:=ty,pos:=pos,after:=af,guard:=gd }=maxO (maxX Tryz.prog gR f S { dst:=dst,op:=.call { callee:=.builtin .max,args:=#[.tmp k,.tmp l],argTypes:=#[3,3] },type:=ty,pos:=pos,after:=af,guard:=gd }) S (f.get k) (f.get l):=by
 unfold maxO
 split
 ·rename_i a b h1 h2
  have hg1:Dm gR f (.tmp k)=some (.int .i64 a):=by unfold Dm; simp only [Ba,h1]; rfl
  have hg2:Dm gR f (.tmp l)=some (.int .i64 b):=by unfold Dm; simp only [Ba,h2]; rfl
  unfold ground
  have hall:((Op.call { callee:=.builtin .max,args:=#[.tmp k,.tmp l],argTypes:=#[3,3] }:Op).operands.toList.all fun x=>(Dm gR f x).isSome)=true:=by
   show ([Operand.tmp k,Operand.tmp l].all fun x=>(Dm gR f x).isSome)=true
   simp only [List.all_cons,List.all_nil,hg1,hg2,Option.isSome_some,Bool.and_self]
  refine (if_pos hall).trans ?_
  rw [max_eq]
  have e1:(Dm gR f (.tmp k)).getD undef=.int .i64 a:=by rw [hg1]; rfl
  have e2:(Dm gR f (.tmp l)).getD undef=.int .i64 b:=by rw [hg2]; rfl
  simp only [e1,e2,max_val]
  rfl
 ·rfl
mutual
def Lb:PE → Int
 | .mk _ _ _ _ _ kids=>IntKind.i64.wrap (Pu kids 0 + 1)
def Pu:List PE → Int → Int
 | [],m=>m
 | e :: r,m=>Pu r (if Lb e > m then Lb e else m)
end
inductive Wide:PE → Prop where
 | mk (kind pos:Nat) (n:Int) (name:List UInt8) (off:Bool) (kids:List PE) (h:kids.length ≤ 2000000) (hk:∀ e ∈ kids,Wide e):Wide (.mk kind pos n name off kids)
theorem RepF.len:∀ {es:List AV} {l:List PE},RepF es l → es.length=l.length:=fun {es l} h=>by
 induction es generalizing l with
 | nil=>cases h; rfl
 | cons a r ih=>cases h with
  | cons _ e _ l2 h h2=>simp [ih h2]
theorem Qw {S:St} {id kind pos:Nat} {n:Int} {name:List UInt8} {off:Bool} {kv:AV} (h:S.mem.get id=some (.box (exC kind pos n name off kv))):C3 Tryz.prog S 28 (.ptr id 5)=some kv:=by
 have a28:Fm Tryz.prog 28=some false:=by kernel_rfl
 simp [C3,Dr,h,a28,exC]
theorem Vm (S:St):Hp Tryz.prog S 28 .nils=some 0:=by kernel_rfl
theorem U3 (S:St) (tok off:Nat) (es:List AV):Hp Tryz.prog S 28 (.sl tok off 6 es)=some es.length:=by
 have h:Tryz.prog.underlying 28=some (.slice 30):=rfl
 simp only [Hp,h]
theorem rI (tok off:Nat) (es:List AV) (j:Nat) (h:j < es.length) (ys:List AV) (hy:es[j]=.agg ys):Cm Tryz.prog 28 (.sl tok off 6 es) (.v (.int .i64 (j:Int)))=some (.ep ys):=by
 have h0:(0:Int) ≤ (j:Int):=by omega
 simp [Cm,h0,e28,s30,h,hy,AV.cells]
theorem zN (S:St) (ys:List AV) (h:ys.length=6):C3 Tryz.prog S 30 (.ep ys)=some (.agg ys):=by
 have e:ys.take 6=ys:=List.take_of_length_le (by omega)
 simp [C3,Dr,a30,s30,h,e]
theorem fnOk78:∃ fn,E1.F 78=some fn:=Option.isSome_iff_exists.1 (by kernel_rfl)
noncomputable def eW:Code:=match Tryz.f78.body with
 | some (.seq _ (.seq _ (.seq _ (.seq (.block _ (.loop c)) _))))=>c
 | some (.seq _ (.seq _ (.seq (.seq _ (.block _ (.loop c))) _)))=>c
 | some (.seq _ (.seq _ (.seq (.seq _ (.seq (.block _ (.loop c)) _)) _)))=>c
 | _=>.skip
def DeepOk (e:PE):Prop:=∀ (ys:List AV),RepE (.agg ys) e → ∀ S,WC E1 78 [.agg ys] S (fun r=>∃ S',r=.ret (.v (.int .i64 (Lb e))) S' ∧ Eg S S')
def LoopDeep (S0:St) (d:Int) (r:O):Prop:=∃ t' S',r=.out (.exit 0) ⟨t',[]⟩ S' ∧ t'.get 3=some (.v (.int .i64 d)) ∧ Eg S0 S'
set_option maxHeartbeats 16000000 in
theorem Yz (S0:St) (tok off:Nat) (es:List AV) (hes:es.length ≤ 2000000) (kv:AV) (hkv:kv=.sl tok off 6 es ∨ es=[]):∀ (suf:List PE) (j:Nat) (m:Int) (t:T AV) (S:St),RepF (es.drop j) suf → j ≤ es.length → (∀ e ∈ suf,DeepOk e) →
  t.get 3=some (.v (.int .i64 m)) → t.get 7=some kv → t.get 8=some (.v (.int .i64 (es.length:Int))) → t.get 9=some (.v (.int .i64 (j:Int))) → Eg S0 S → WX E1 20 (.loop eW) ⟨t,[]⟩ S (LoopDeep S0 (Pu suf m))
 | [],j,m,t,S,hr,hj,hd,h3,h7,h8,h9,hk=>by
  refine Fe (El ?_)
  have hl:j=es.length:=by have:=hr.len; rw [List.length_drop] at this; simp at this; omega
  have hlt:¬ ((j:Int) < (es.length:Int)):=by omega
  simp only [Cf,Br,A6,Bl,Bq,Bt,Dk,A4,Cq,Bh,A7,A9,A8,Cr,A5,Bc,Ba,A0,ofOpt,B9,Bv,Dd,Nat.reduceLT,Nat.reduceEqDiff,Aa,Ab,Ac,Am,Aq,Tryz.f78,eW,h7,h8,h9,hlt]
  exact ⟨_,_,rfl,by simp [T.get_set,h3,Pu],hk⟩
 | e :: suf,j,m,t,S,hr,hj,hd,h3,h7,h8,h9,hk=>by
  refine Fe (El ?_)
  have hl:j < es.length:=by have:=hr.len; rw [List.length_drop] at this; simp at this; omega
  have hlt:((j:Int) < (es.length:Int)):=by omega
  rw [List.drop_eq_getElem_cons hl] at hr
  obtain ⟨fn1,hf1⟩:=fnOk78
  cases hr with
  | cons _ _ _ _ hr1 hr2 =>
  obtain ⟨ys,hy,hyl⟩:=hr1.agg
  rw [hy] at hr1
  have q0:kv=.sl tok off 6 es:=by
   rcases hkv with h | h
   ·exact h
   ·rw [h] at hl; cases hl
  subst q0
  have q1:=rI tok off es j hl ys hy
  have q2:=zN S ys hyl
  have q3:=Sg (Db S exZ) rfl hyl
  have g3:=Ek (S.newBox exZ) S.next ys
  have k3:Eg S ((S.newBox exZ).put S.next ys):=Ee (C4 S _) (Nat.le_refl _) _
  generalize hS3:(S.newBox exZ).put S.next ys=S3 at q3 g3 k3
  have q4:=ld30 g3 hyl
  have w1:IntKind.i64.wrap ((j:Int) + 1)=((j + 1:Nat):Int):=Jg (j:=1) (by omega)
  simp only [Cf,Br,A6,Bl,Bq,Bt,Dk,A4,Cq,Bh,A7,A9,Bm,Bd,Bn,A8,Cw,A5,Bc,Ba,A0,Bo,B5,ofOpt,ofOptS,B9,Bv,Dd,Nat.reduceLT,Nat.reduceEqDiff,Aa,Ab,Ac,Aj,Ak,Am,Ap,Tryz.f78,Fy,eW,h3,h7,h8,h9,hlt,q1,q2,q3,q4,hf1]
  refine WC.mono (hd e (List.mem_cons_self ..) ys hr1 S3) ?_
  rintro _ ⟨S4,rfl,k4⟩
  simp only [B8,A6,A4,B4,Bh,A7,A9,A8,Bk,A5,Bc,Ba,A0,Bo,ofOpt,Bb,B9,Fb,Bv,Dl,Nat.reduceLT,Nat.reduceEqDiff,Aa,Ab,Ac,Am,h9,vU,maxO_ii,w1]
  exact Yz S0 tok off es hes _ (.inl rfl) suf (j + 1) _ _ _ hr2 hl (fun e he=>hd e (List.mem_cons_of_mem _ he)) (by simp [T.get_set]) (by simp [T.get_set,h7]) (by simp [T.get_set,h8]) (by simp [T.get_set]) (hk.trans (k3.trans k4))
set_option maxHeartbeats 16000000 in
theorem deep_w:∀ {e:PE},Wide e → DeepOk e:=fun {e} hw=>by
 induction hw with
 | mk kind pos n name off kids hlen hk ih =>
  intro ys hr S
  cases hr with
  | mk _ _ _ _ _ kv _ hkk =>
  refine Dx Tryz.f78 (by kernel_rfl) (by kernel_rfl) (by kernel_rfl) (show (_:Nat) ≤ _ from by show (_:Nat) ≤ _; simp [Tryz.f78]) ?_
  have g1:=Db S (exC kind pos n name off kv)
  have l1:=Qw g1
  cases hkk with
  | nil =>
   simp only [A6,Bl,Bt,D5,A4,Bh,A7,A9,A8,A5,Bc,Ba,Cc,A0,A1,Bo,ofOpt,Bb,B9,Nat.reduceLT,Nat.reduceEqDiff,Aa,Ab,Ac,Ae,Tryz.f78,Cd,Ce,fe5,l1,Vm]
   refine WX.mono (Yz (S.newBox (exC kind pos n name off .nils)) 0 0 [] (by simp) .nils (.inr rfl) [] 0 0 _ _ .nil (by simp) (fun e h=>by cases h) (by simp [T.get_set]) (by simp [T.get_set]) (by simp [T.get_set]) (by simp [T.get_set]) ⟨Nat.le_refl _,fun _ _=>rfl⟩) ?_
   rintro _ ⟨t',S',rfl,g3,k9⟩
   simp only [A6,Bl,Bw,A4,Cq,Cp,Bh,A7,A9,A8,A5,Bc,Ba,A0,ofOpt,Bb,B9,Bv,Bg,By,Bf,Cl,Dl,Nat.reduceLT,Nat.reduceEqDiff,Aa,Ab,Ac,Am,g3]
   exact ⟨_,rfl,(C4 S _).trans k9⟩
  | row tok o es _ hf =>
   have hl:=hf.len
   simp only [A6,Bl,Bt,D5,A4,Bh,A7,A9,A8,A5,Bc,Ba,Cc,A0,A1,Bo,ofOpt,Bb,B9,Nat.reduceLT,Nat.reduceEqDiff,Aa,Ab,Ac,Ae,Tryz.f78,Cd,Ce,fe5,l1,U3]
   refine WX.mono (Yz (S.newBox (exC kind pos n name off (.sl tok o 6 es))) tok o es (by omega) (.sl tok o 6 es) (.inl rfl) kids 0 0 _ _ hf (by omega) ih (by simp [T.get_set]) (by simp [T.get_set]) (by simp [T.get_set]) (by simp [T.get_set]) ⟨Nat.le_refl _,fun _ _=>rfl⟩) ?_
   rintro _ ⟨t',S',rfl,g3,k9⟩
   simp only [A6,Bl,Bw,A4,Cq,Cp,Bh,A7,A9,A8,A5,Bc,Ba,A0,ofOpt,Bb,B9,Bv,Bg,By,Bf,Cl,Dl,Nat.reduceLT,Nat.reduceEqDiff,Aa,Ab,Ac,Am,g3]
   exact ⟨_,rfl,(C4 S _).trans k9⟩
end Go.Ax
noncomputable section
namespace Go.Ax
open Go.RowKit Go.Proofs
set_option maxRecDepth 100000
theorem Fa {α β:Type} {x:PR α} {f:α → Nat → PR β} {b:β} {j:Nat} (h:PR.bind x f=.ok b j):∃ a m,x=.ok a m ∧ f a m=.ok b j:=by
 cases x with
 | ok a m=>exact ⟨a,m,rfl,h⟩
 | bad a e=>cases h
 | out=>cases h
theorem oM (kind pos:Nat) (n:Int) (name:List UInt8) (off:Bool):Wide (.mk kind pos n name off []):=.mk _ _ _ _ _ _ (by simp) (fun e h=>by cases h)
theorem xH {x:PE} (h:Wide x) (kind pos:Nat) (n:Int) (name:List UInt8) (off:Bool):Wide (.mk kind pos n name off [x]):=.mk _ _ _ _ _ _ (by simp) (fun e he=>by
 rcases List.mem_cons.1 he with rfl | he
 ·exact h
 ·cases he)
theorem oL {x y:PE} (h:Wide x) (h2:Wide y) (kind pos:Nat) (n:Int) (name:List UInt8) (off:Bool):Wide (.mk kind pos n name off [x,y]):=.mk _ _ _ _ _ _ (by simp) (fun e he=>by
 simp only [List.mem_cons,List.not_mem_nil,or_false] at he
 rcases he with rfl | rfl
 ·exact h
 ·exact h2)
theorem wide3 {x y z:PE} (h:Wide x) (h2:Wide y) (h3:Wide z) (kind pos:Nat) (n:Int) (name:List UInt8) (off:Bool):Wide (.mk kind pos n name off [x,y,z]):=.mk _ _ _ _ _ _ (by simp) (fun e he=>by
 simp only [List.mem_cons,List.not_mem_nil,or_false] at he
 rcases he with rfl | rfl | rfl
 ·exact h
 ·exact h2
 ·exact h3)
theorem Ig {α:Type} {a b:α} {i j:Nat} (h:(PR.ok a i:PR α)=.ok b j):a=b ∧ i=j:=by injection h with h1 h2; exact ⟨h1,h2⟩
theorem Qo {ts:List Tk} {ws:List (List UInt8)} {kid:Nat → PR PE} (hk:∀ i e j,kid i=.ok e j → Wide e):∀ (n:Nat) (x:PE) (i:Nat) (e:PE) (j:Nat),Wide x → Ju ts ws kid n x i=.ok e j → Wide e
 | 0,x,i,e,j,hx,h=>by cases h
 | n + 1,x,i,e,j,hx,h=>by
  unfold Ju at h
  split at h
  ·obtain ⟨a,m,h1,h2⟩:=Fa h
   exact Qo hk n _ _ _ _ (oL hx (hk _ _ _ h1) ..) h2
  ·obtain ⟨rfl,_⟩:=Ig h; exact hx
theorem bB {ts:List Tk}:∀ (n:Nat) (x:PE) (i:Nat) (e:PE) (j:Nat),Wide x → Jv ts n x i=.ok e j → Wide e
 | 0,x,i,e,j,hx,h=>by cases h
 | n + 1,x,i,e,j,hx,h=>by
  unfold Jv at h
  split at h
  ·obtain ⟨a,m,h1,h2⟩:=Fa h
   exact bB n _ _ _ _ (xH hx ..) h2
  ·obtain ⟨rfl,_⟩:=Ig h; exact hx
theorem Vg {ts:List Tk} {kid:Nat → PR PE} (hk:∀ i e j,kid i=.ok e j → Wide e):∀ (n:Nat) (l:List PE) (i:Nat) (r:List PE) (j:Nat),(∀ e ∈ l,Wide e) → Hc ts kid n l i=.ok r j → (∀ e ∈ r,Wide e) ∧ r.length ≤ l.length + n
 | 0,l,i,r,j,hl,h=>by cases h
 | n + 1,l,i,r,j,hl,h=>by
  unfold Hc at h
  split at h
  ·obtain ⟨a,m,h1,h2⟩:=Fa h
   obtain ⟨h3,h4⟩:=Vg hk n _ _ _ _ (fun e he=>by
    rcases List.mem_append.1 he with he | he
    ·exact hl e he
    ·rcases List.mem_cons.1 he with rfl | he
     ·exact hk _ _ _ h1
     ·cases he) h2
   refine ⟨h3,?_⟩
   rw [List.length_append] at h4
   simp at h4
   omega
  ·obtain ⟨a,m,h1,h2⟩:=Fa h
   obtain ⟨rfl,_⟩:=Ig h2; exact ⟨hl,by omega⟩
theorem vA {ts:List Tk} {kid:Nat → PR PE} (hk:∀ i e j,kid i=.ok e j → Wide e) (n i:Nat) (r:List PE) (j:Nat) (h:Jm ts kid n i=.ok r j):(∀ e ∈ r,Wide e) ∧ r.length ≤ n + 1:=by
 unfold Jm at h
 obtain ⟨a,m,h1,h2⟩:=Fa h
 split at h2
 ·obtain ⟨rfl,_⟩:=Ig h2; exact ⟨fun e he=>(by cases he),by simp⟩
 ·obtain ⟨b,m2,h3,h4⟩:=Fa h2
  obtain ⟨h5,h6⟩:=Vg hk n _ _ _ _ (fun e he=>by
   rcases List.mem_cons.1 he with rfl | he
   ·exact hk _ _ _ h3
   ·cases he) h4
  refine ⟨h5,?_⟩
  simp at h6
  omega
theorem Yh {ts:List Tk} {i:Nat} {e:PE} {j:Nat} (h:K3 ts i=.ok e j):Wide e:=by
 unfold K3 at h
 split at h
 ·cases h
 ·split at h
  ·split at h
   ·cases h
   ·split at h
    ·obtain ⟨rfl,_⟩:=Ig h; exact oM ..
    ·cases h
  ·split at h
   ·split at h
    ·cases h
    ·obtain ⟨rfl,_⟩:=Ig h; exact oM ..
   ·cases h
theorem bE (t:Tk):Wide (Jh t):=oM ..
theorem fS {ts:List Tk}:∀ (n:Nat),n ≤ 1000000 → ∀ (nt:NT) (i:Nat) (e:PE) (j:Nat),P ts n nt i=.ok e j → Wide e
 | 0,_,nt,i,e,j,h=>by cases nt <;> cases h
 | n + 1,hn,nt,i,e,j,h=>by
  have ih:∀ (nt:NT) (i:Nat) (e:PE) (j:Nat),P ts n nt i=.ok e j → Wide e:=fS n (by omega)
  cases nt with
  | expr =>
   unfold P at h
   split at h
   ·obtain ⟨a,m,h1,h⟩:=Fa h
    obtain ⟨_,m,_,h⟩:=Fa h
    obtain ⟨b,m,h2,h⟩:=Fa h
    obtain ⟨_,m,_,h⟩:=Fa h
    obtain ⟨c,m,h3,h⟩:=Fa h
    obtain ⟨rfl,_⟩:=Ig h; exact wide3 (ih _ _ _ _ h1) (ih _ _ _ _ h2) (ih _ _ _ _ h3) ..
   ·exact ih _ _ _ _ h
  | arrow =>
   unfold P at h
   obtain ⟨a,m,h1,h⟩:=Fa h
   split at h
   ·obtain ⟨b,m,h2,h⟩:=Fa h
    obtain ⟨rfl,_⟩:=Ig h; exact oL (ih _ _ _ _ h1) (ih _ _ _ _ h2) ..
   ·split at h
    ·obtain ⟨rfl,_⟩:=Ig h; exact ih _ _ _ _ h1
    ·split at h
     ·obtain ⟨b,m,h2,h⟩:=Fa h
      obtain ⟨rfl,_⟩:=Ig h; exact oL (ih _ _ _ _ h1) (ih _ _ _ _ h2) ..
     ·obtain ⟨rfl,_⟩:=Ig h; exact ih _ _ _ _ h1
  | or=>unfold P at h; obtain ⟨a,m,h1,h⟩:=Fa h; exact Qo (ih _) n _ _ _ _ (ih _ _ _ _ h1) h
  | and=>unfold P at h; obtain ⟨a,m,h1,h⟩:=Fa h; exact Qo (ih _) n _ _ _ _ (ih _ _ _ _ h1) h
  | sum=>unfold P at h; obtain ⟨a,m,h1,h⟩:=Fa h; exact Qo (ih _) n _ _ _ _ (ih _ _ _ _ h1) h
  | term=>unfold P at h; obtain ⟨a,m,h1,h⟩:=Fa h; exact Qo (ih _) n _ _ _ _ (ih _ _ _ _ h1) h
  | not =>
   unfold P at h
   split at h
   ·obtain ⟨a,m,h1,h⟩:=Fa h
    obtain ⟨rfl,_⟩:=Ig h; exact xH (ih _ _ _ _ h1) ..
   ·obtain ⟨a,m,h1,h⟩:=Fa h
    split at h
    ·obtain ⟨b,m,h2,h⟩:=Fa h
     obtain ⟨rfl,_⟩:=Ig h; exact oL (ih _ _ _ _ h1) (ih _ _ _ _ h2) ..
    ·obtain ⟨rfl,_⟩:=Ig h; exact ih _ _ _ _ h1
  | unary =>
   unfold P at h
   split at h
   ·obtain ⟨a,m,h1,h⟩:=Fa h
    obtain ⟨rfl,_⟩:=Ig h; exact xH (ih _ _ _ _ h1) ..
   ·split at h
    ·exact Yh h
    ·split at h
     ·obtain ⟨a,m,h1,h⟩:=Fa h
      obtain ⟨rfl,_⟩:=Ig h; exact xH (ih _ _ _ _ h1) ..
     ·exact ih _ _ _ _ h
  | when=>unfold P at h; obtain ⟨a,m,h1,h⟩:=Fa h; exact bB n _ _ _ _ (ih _ _ _ _ h1) h
  | primary =>
   unfold P at h
   split at h
   ·exact Yh h
   ·split at h
    ·exact ih _ _ _ _ h
    ·split at h
     ·obtain ⟨rfl,_⟩:=Ig h; exact bE _
     ·split at h
      ·obtain ⟨_,m,_,h⟩:=Fa h
       obtain ⟨a,m,h1,h⟩:=Fa h
       obtain ⟨b,m,h2,h⟩:=Fa h
       obtain ⟨rfl,_⟩:=Ig h; exact oL (ih _ _ _ _ h1) (ih _ _ _ _ h2) ..
      ·split at h
       ·obtain ⟨_,m,_,h⟩:=Fa h
        split at h
        ·obtain ⟨_,m,_,h⟩:=Fa h
         obtain ⟨a,m,h1,h⟩:=Fa h
         obtain ⟨l,m,h2,h⟩:=Fa h
         obtain ⟨h3,h4⟩:=Vg (ih .lit) n _ _ _ _ (fun e he=>by
          rcases List.mem_cons.1 he with rfl | he
          ·exact ih _ _ _ _ h1
          ·cases he) h2
         obtain ⟨rfl,_⟩:=Ig h
         simp at h4
         exact .mk _ _ _ _ _ _ (by omega) h3
        ·obtain ⟨rfl,_⟩:=Ig h; exact oM ..
       ·exact ih _ _ _ _ h
  | name =>
   unfold P at h
   split at h
   ·exact ih _ _ _ _ h
   ·obtain ⟨_,m,_,h⟩:=Fa h
    obtain ⟨rfl,_⟩:=Ig h; exact oM ..
  | call =>
   unfold P at h
   obtain ⟨_,m,_,h⟩:=Fa h
   obtain ⟨l,m,h2,h⟩:=Fa h
   obtain ⟨h3,h4⟩:=vA (ih .expr) n _ _ _ h2
   obtain ⟨rfl,_⟩:=Ig h
   exact .mk _ _ _ _ _ _ (by omega) h3
  | brk =>
   unfold P at h
   obtain ⟨_,m,_,h⟩:=Fa h
   obtain ⟨a,m,h1,h⟩:=Fa h
   obtain ⟨_,m,_,h⟩:=Fa h
   obtain ⟨rfl,_⟩:=Ig h; exact ih _ _ _ _ h1
  | lit =>
   unfold P at h
   split at h
   ·obtain ⟨rfl,_⟩:=Ig h; exact bE _
   ·exact Yh h
def posE:PE → Nat
 | .mk _ pos _ _ _ _=>pos
def Gs (kid:Nat → PR PE) (i:Nat):PR PE:=(kid i).bind fun e j=>if Lb e > 40 then .bad (posE e) 3 else .ok e j
theorem fnOk46:∃ fn,E1.F 46=some fn:=Option.isSome_iff_exists.1 (by kernel_rfl)
theorem ld3p {S:St} {id:Nat} {xs:List AV} {e:PE} (h:S.mem.get id=some (.box xs)) (hr:RepE (.agg xs) e):C3 Tryz.prog S 3 (.ptr id 1)=some (.v (.int .i64 (posE e:Int))):=by
 cases hr with
 | mk kind pos n name off kv kids h2=>simp [C3,Dr,h,a3,exC,D0,posE]
theorem fe1 (b:Nat):C9 Tryz.prog 30 (.ptr b 0) 1=some (.ptr b 1):=by kernel_rfl
section
variable {p k:Nat} {ts:List Tk} (hts:TokOk ts)
include hts
set_option maxHeartbeats 16000000 in
theorem X6 (m:Nat) (kid:Nat → PR PE) (hF:∃ fn,E1.F m=some fn) (hkid:Con p k ts m kid) (hw:∀ i e j,kid i=.ok e j → Wide e) (S:St) (i:Nat) (h:Cur S p k ts i) (hp:p < S.next) (hi:i < ts.length) (ho:kid i ≠ .out):WC E1 46 [.ptr p 0,Mx m p] S (Oo p k ts S RepE (Gs kid i)):=by
 have _:=hts
 refine Dx Tryz.f46 (by kernel_rfl) (by kernel_rfl) (by kernel_rfl) (show (_:Nat) ≤ _ from by show (_:Nat) ≤ _; simp [Tryz.f46]) ?_
 obtain ⟨fn1,hf1⟩:=hF
 obtain ⟨fn2,hf2⟩:=fnOk78
 unfold Gs
 obtain ⟨x1,c1,br,hp1⟩:=I8 h hp
 have y2:=x1
 simp only [A6,Bl,A4,Bh,A7,A9,Bd,A8,A5,Bc,Ba,Cc,A0,A1,Bo,B5,ofOpt,ofOptS,B9,Nat.reduceLT,Nat.reduceAdd,Nat.reduceEqDiff,Aa,Ab,Ac,Ae,Ak,Tryz.f46,Fy,hf1,Mx]
 refine WC.mono (hkid _ _ c1 hp1 hi ho) ?_
 cases hX3:kid i with
 | out=>exact absurd hX3 ho
 | bad a e =>
  rintro _ ⟨S3,rfl,x3⟩
  simp only [B6,Ca,B3]
  exact ⟨_,rfl,y2.trans x3⟩
 | ok a3 j3 =>
  rintro _ ⟨v3,S3,rfl,hr3,x3,c3,hi3⟩
  obtain ⟨xs3,rfl,hl3⟩:=RepE.agg hr3
  have rf3:=RepE.refl hr3
  have hp3:p < S3.next:=Nat.lt_of_lt_of_le hp1 x3.1
  have y4:=(y2).trans x3
  have br_4:=br.keep x3
  rw [Dg]
  obtain ⟨S5,q5,x5,c5,bx,hp5⟩:=Ra c3 hp3 (xs:=xs3) hl3
  have y6:=(y4).trans x5
  have br_6:=br_4.keep x5
  have l7:=bx.ld30 hl3
  simp only [A6,Bl,A4,Bh,A7,A9,Bm,Bd,Bn,A8,Bk,A5,Bc,Ba,A0,A1,Bo,B5,ofOpt,ofOptS,B9,Nat.reduceLT,Nat.reduceEqDiff,Aa,Ab,Ac,Aj,Ak,Fy,hf2,q5,l7]
  refine WC.mono (deep_w (hw _ _ _ hX3) xs3 hr3 _) ?_
  rintro _ ⟨S8,rfl,k8⟩
  have x8:=k8.x p
  have c8:=c5.keep hp5 k8
  have hp8:p < S8.next:=Nat.lt_of_lt_of_le hp5 x8.1
  have y9:=(y6).trans x8
  have br_9:=br_6.keep x8
  have bx_9:=bx.keep x8
  have l10:=bx_9.ld30 hl3
  by_cases hd:Lb a3 > 40
  ·rw [if_pos hd]
   have lp:=ld3p bx_9.get hr3
   have m3:Qd Tryz.prog 33 (.agg [.v (.int .i64 (posE a3:Int)),.v (.int .i64 3)])=some (.iface 33 (.agg [.v (.int .i64 (posE a3:Int)),.v (.int .i64 3)])):=yZ _ 3
   simp only [Br,A6,Bl,Bq,A4,B6,Bh,A7,A9,Di,A8,Bk,Cw,A5,Bc,Ba,A0,A1,ofOpt,Bb,B9,Bu,Bv,B3,Do,Nat.reduceLT,Nat.reduceEqDiff,Aa,Ab,Ac,Am,Ap,l10,hd,fe1,lp,lC,m3]
   exact ⟨_,rfl,y9⟩
  ·rw [if_neg hd]
   obtain ⟨g11,h11,gx,gc⟩:=F6 (S0:=S) c8 br_9 rfl (Nat.le_refl _) y9 (xs:=xs3) hl3
   simp only [Br,A6,Bl,Bq,Bw,A4,Bh,A7,A9,Bm,Bn,A8,Bk,Cr,A5,Bc,Ba,A0,A1,ofOpt,Bb,B9,Bv,Bg,By,Bf,Cl,Do,Nat.reduceLT,Nat.reduceEqDiff,Aa,Ab,Ac,Am,Aq,l10,hd,g11,h11]
   exact ⟨_,_,rfl,hr3,gx,gc,hi3⟩
omit hts
structure PQ where
 left:List (List UInt8 × Nat)
 async:Bool
 e:PE
def eqC (lv:AV) (a:Bool) (xs:List AV):List AV:=lv :: .v (.bool a) :: xs
def aA (v:AV) (q:PQ):Prop:=∃ lv xs,v=.agg (eqC lv q.async xs) ∧ I5 2 G1 lv q.left ∧ xs.length=6 ∧ RepE (.agg xs) q.e
theorem Re {kid:Nat → PR PE} {i:Nat} (h:Gs kid i ≠ .out):kid i ≠ .out:=fun e=>h (by unfold Gs; rw [e]; rfl)
include hts
end
end Go.Ax
noncomputable section
namespace Go.Ax
open Go.RowKit Go.Proofs
set_option maxRecDepth 100000
inductive EqRows:List AV → List PQ → Prop where
 | nil:EqRows [] []
 | cons (a:AV) (q:PQ) (r:List AV) (l:List PQ) (h:aA a q) (h2:EqRows r l):EqRows (a :: r) (q :: l)
theorem EqRows.app:∀ {es:List AV} {l:List PQ} {a:AV} {e:PQ},EqRows es l → aA a e → EqRows (es ++ [a]) (l ++ [e]):=fun {es l a e} h h2=>by
 induction es generalizing l with
 | nil=>cases h; exact .cons _ _ _ _ h2 .nil
 | cons x r ih=>cases h with
  | cons _ e2 _ l2 h3 h4=>exact .cons _ _ _ _ h3 (ih h4)
theorem EqRows.len:∀ {es:List AV} {l:List PQ},EqRows es l → es.length=l.length:=fun {es l} h=>by
 induction es generalizing l with
 | nil=>cases h; rfl
 | cons a r ih=>cases h with
  | cons _ e _ l2 h h2=>simp [ih h2]
def Y8 (lo:Nat) (S:St) (a:AV) (es:List AV):Prop:=(a=.nils ∧ es=[]) ∨ ∃ tok,a=.sl tok 0 8 es ∧ 2 ≤ tok ∧ lo ≤ tok ∧ tok < S.next ∧ S.mem.get tok=some (.tip (es.length * 8))
theorem Y8.keep {lo p:Nat} {S S':St} {a:AV} {es:List AV} (h:Y8 lo S a es) (k:Ez p S S') (hp:p < lo):Y8 lo S' a es:=by
 rcases h with h | ⟨tok,h0,h1,h2,h3,h4⟩
 ·exact .inl h
 ·exact .inr ⟨tok,h0,h1,h2,Nat.lt_of_lt_of_le h3 k.1,by rw [k.2 tok h3 (by omega)]; exact h4⟩
theorem Y8.put {lo:Nat} {S:St} {a:AV} {es:List AV} (h:Y8 lo S a es) {b:Nat} {cs ys:List AV} (hb:S.mem.get b=some (.box cs)):Y8 lo (S.put b ys) a es:=by
 rcases h with h | ⟨tok,h0,h1,h2,h3,h4⟩
 ·exact .inl h
 ·refine .inr ⟨tok,h0,h1,h2,h3,?_⟩
  rw [Et (fun e=>by subst e; rw [h4] at hb; cases hb)]
  exact h4
structure PN where
 name:List UInt8
 pos:Nat
 ins:List PD
 outs:List PD
 vars:List PD
 eqs:List PQ
def I2 (nm:List UInt8) (pos:Nat) (a b c d:AV):List AV:=[Bp nm,D0 pos,a,b,c,d]
theorem fn5 (b:Nat):C9 Tryz.prog 49 (.ptr b 0) 5=some (.ptr b 5):=by kernel_rfl
theorem vL {v:AV} {l:List (List UInt8 × Nat)} (h:I5 2 G1 v l):Gr v v=true:=by
 rcases h with ⟨rfl,_⟩ | ⟨tok,off,rfl⟩
 ·rfl
 ·have e:Om (l.map G1) (l.map G1)=true:=by
   induction l with
   | nil=>rfl
   | cons a r ih=>simp [Om,ih,Gr,G1,H8,Bp,D0,eqS,Ky]
  simp [Gr,e]
theorem aA.refl {v:AV} {q:PQ} (h:aA v q):Gr v v=true:=by
 obtain ⟨lv,xs,rfl,h1,h2,h3⟩:=h
 simp [eqC,Gr,Om,vL h1,Hq h3,eqS]
theorem EqRows.refl:∀ {es:List AV} {l:List PQ},EqRows es l → Om es es=true:=fun {es l} h=>by
 induction es generalizing l with
 | nil=>rfl
 | cons a r ih=>cases h with
  | cons _ e _ l2 h h2=>simp [Om,h.refl,ih h2]
theorem Y8.refl {lo:Nat} {S:St} {a:AV} {es:List AV} {l:List PQ} (h:Y8 lo S a es) (h2:EqRows es l):Gr a a=true:=by
 rcases h with ⟨rfl,_⟩ | ⟨tok,rfl,_⟩
 ·rfl
 ·simp [Gr,h2.refl]
section
variable {p k:Nat} {ts:List Tk} (hts:TokOk ts)
include hts
end
end Go.Ax
noncomputable section
namespace Go.Ax
open Go.RowKit Go.Proofs
set_option maxRecDepth 100000
def Td (v:AV) (nd:PN):Prop:=∃ a b c d es,v=.agg (I2 nd.name nd.pos a b c d) ∧ I5 6 He a nd.ins ∧ I5 6 He b nd.outs ∧ I5 6 He c nd.vars ∧ ((d=.nils ∧ es=[]) ∨ ∃ tok,d=.sl tok 0 8 es) ∧ EqRows es nd.eqs
section
variable {S:St} {id:Nat} {nm:List UInt8} {pos:Nat} {a b c d v:AV} {l:List PD} (h:S.mem.get id=some (.box (I2 nm pos a b c d))) (hv:I5 6 He v l)
include h hv
end
section
variable {p k:Nat} {ts:List Tk} (hts:TokOk ts)
include hts
end
end Go.Ax
noncomputable section
namespace Go.Ax
open Go.RowKit Go.Proofs
set_option maxRecDepth 100000
inductive NodeRows:List AV → List PN → Prop where
 | nil:NodeRows [] []
 | cons (a:AV) (q:PN) (r:List AV) (l:List PN) (h:Td a q) (h2:NodeRows r l):NodeRows (a :: r) (q :: l)
theorem NodeRows.app:∀ {es:List AV} {l:List PN} {a:AV} {e:PN},NodeRows es l → Td a e → NodeRows (es ++ [a]) (l ++ [e]):=fun {es l a e} h h2=>by
 induction es generalizing l with
 | nil=>cases h; exact .cons _ _ _ _ h2 .nil
 | cons x r ih=>cases h with
  | cons _ e2 _ l2 h3 h4=>exact .cons _ _ _ _ h3 (ih h4)
theorem NodeRows.len:∀ {es:List AV} {l:List PN},NodeRows es l → es.length=l.length:=fun {es l} h=>by
 induction es generalizing l with
 | nil=>cases h; rfl
 | cons a r ih=>cases h with
  | cons _ e _ l2 h h2=>simp [ih h2]
section
variable {p k:Nat} {ts:List Tk} (hts:TokOk ts)
include hts
end
end Go.Ax
noncomputable section
namespace Go.Ax
open Go.RowKit
def gH (E:Env) (k:FuncId) (args:List AV) (S:St) (m:Option AV) (K:St → Prop):Prop :=
 ∃ fn id ops rest o d,E.F k=some fn ∧ fn.body=some (.seq (.region id ops false) rest) ∧ ops.toList=[o] ∧ Yn o=some d ∧ args.length ≤ fn.ntmps ∧ d < fn.ntmps ∧ fn.results.toList=[] ∧
  WX E fn.ntmps rest ⟨(Cc args 0).set d (some (m.getD (.v .nilIface))),[]⟩ S (fun r=>∃ f' S',(r=.out .normal f' S' ∨ r=.out .ret f' S') ∧ f'.dfr=[] ∧ K S')
def Q2 (E:Env) (rs:List ResultVar) (f:Fr) (S:St) (Q:R → Prop):Prop:=match Bf E f.tmps S rs with
 | some l=>Q (.ret (Cl l) S)
 | none=>False
def finD (E:Env) (rs:List ResultVar) (Q:R → Prop):O → Prop
 | .out e f S=>match f.dfr with
  | []=>finW E rs Q (.out e f S)
  | [⟨.func k,caps,args⟩]=>match e with
   | .normal=>gH E k (args ++ caps) S none (fun S'=>Q2 E rs f S' Q)
   | .ret=>gH E k (args ++ caps) S none (fun S'=>Q2 E rs f S' Q)
   | .pan a=>gH E k (args ++ caps) S (some a) (fun S'=>Q2 E rs f S' Q)
   | _=>False
  | _=>False
 | .fail=>False
theorem Vr {E:Env} {k:FuncId} {args:List AV} {S:St} {m:Option AV} {K:St → Prop} (h:gH E k args S m K):∃ S' m0,K S' ∧ ∀ n,m0 ≤ n → sJ E (run E (C1 E) n) k args S m=.ok m.isSome S':=by
 obtain ⟨fn,id,ops,rest,o,d,h1,h2,h3,h4,h5,h6,h7,r,⟨m0,hm⟩,f',S',hr,hd,hK⟩:=h
 refine ⟨S',m0,hK,fun n hn=>?_⟩
 have hx:=hm n hn
 unfold sJ
 simp only [h1,h2,h3,h4]
 rw [if_pos ⟨h5,h6⟩,hx]
 rcases hr with rfl | rfl <;> simp only [hd,h7]
theorem WC_dfr {E:Env} {k:FuncId} {args:List AV} {S:St} {Q:R → Prop} (fn:Func) (hI:E.I k=none) (hF:E.F k=some fn) (hb:fn.body.isSome=true) (hl:args.length ≤ fn.ntmps)
  (h:WX E fn.ntmps (fn.body.getD .skip) ⟨Cc args 0,[]⟩ S (finD E fn.results.toList Q)):WC E k args S Q:=by
 obtain ⟨r,⟨m0,hm⟩,hq⟩:=h
 obtain ⟨c,hc⟩:=Option.isSome_iff_exists.1 hb
 have key:∀ m,m0 ≤ m → ckN E m k args S=Xe E (run E (C1 E) m) fn r:=fun m hmm=>by
  show La E (run E (C1 E) m) k args S=_
  unfold La
  rw [hI,hF]
  simp only [hc,if_pos hl]
  have:=hm m hmm
  rw [hc] at this
  rw [show run E (C1 E) m fn.ntmps c ⟨Cc args 0,[]⟩ S=r from this]
 cases r with
 | fail=>exact hq.elim
 | out e f' S' =>
  simp only [finD] at hq
  split at hq
  ·rename_i hd
   have give:∀ (S':St),By E fn.results.toList f' S' Q → ∃ l,Bf E f'.tmps S' fn.results.toList=some l ∧ Q (.ret (Cl l) S'):=fun S' hg=>by
    unfold By at hg
    split at hg
    ·rename_i l h1 h2; exact ⟨l,h2,hg⟩
    ·exact hg.elim
   cases e with
   | normal =>
    obtain ⟨l,h2,h3⟩:=give S' hq
    exact ⟨_,⟨m0,fun m hmm=>by rw [key m hmm]; simp only [Xe,hd,Mp,h2]⟩,h3⟩
   | ret =>
    obtain ⟨l,h2,h3⟩:=give S' hq
    exact ⟨_,⟨m0,fun m hmm=>by rw [key m hmm]; simp only [Xe,hd,Mp,h2]⟩,h3⟩
   | pan a=>exact ⟨_,⟨m0,fun m hmm=>by rw [key m hmm]; simp only [Xe,hd]⟩,hq.2⟩
   | exit id=>exact hq.elim
  ·rename_i k' caps args' hd
   have give:∀ (S':St),Q2 E fn.results.toList f' S' Q → ∃ l,Bf E f'.tmps S' fn.results.toList=some l ∧ Q (.ret (Cl l) S'):=fun S' hg=>by
    unfold Q2 at hg
    split at hg
    ·rename_i l h2; exact ⟨l,h2,hg⟩
    ·exact hg.elim
   cases e with
   | normal =>
    obtain ⟨S2,m1,hK,h1⟩:=Vr hq
    obtain ⟨l,h2,h3⟩:=give S2 hK
    exact ⟨_,⟨max m0 m1,fun m hmm=>by rw [key m (by omega)]; simp only [Xe,hd,h1 m (by omega),Mp,h2]⟩,h3⟩
   | ret =>
    obtain ⟨S2,m1,hK,h1⟩:=Vr hq
    obtain ⟨l,h2,h3⟩:=give S2 hK
    exact ⟨_,⟨max m0 m1,fun m hmm=>by rw [key m (by omega)]; simp only [Xe,hd,h1 m (by omega),Mp,h2]⟩,h3⟩
   | pan a =>
    obtain ⟨S2,m1,hK,h1⟩:=Vr hq
    obtain ⟨l,h2,h3⟩:=give S2 hK
    exact ⟨_,⟨max m0 m1,fun m hmm=>by rw [key m (by omega)]; simp only [Xe,hd,h1 m (by omega),Mp,h2]⟩,h3⟩
   | exit id=>exact hq.elim
  ·exact hq.elim
end Go.Ax
noncomputable section
namespace Go.Ax
open Go.RowKit Go.Proofs
set_option maxRecDepth 100000
theorem end_w (S:St) (p k:Nat) (ts:List Tk) (i:Nat) (h:Cur S p k ts i) (hp:p < S.next) (hi:i < ts.length):WC E1 77 [.ptr p 0] S (fun r=>∃ S',Eg S S' ∧ ((tk ts i).kind=5 ∧ r=.ret (.tup []) S' ∨ (tk ts i).kind ≠ 5 ∧ r=.pan (Ut (tk ts i).pos (G6 (tk ts i))) S')):=by
 refine Dx Tryz.f77 (by kernel_rfl) (by kernel_rfl) (by kernel_rfl) (show (_:Nat) ≤ _ from by show (_:Nat) ≤ _; simp [Tryz.f77]) ?_
 obtain ⟨fn1,hf1⟩:=O7
 obtain ⟨fn2,hf2⟩:=nJ
 have e0:=K8 hi
 simp only [A6,Bl,A7,A9,Bd,A8,A5,Bc,Ba,Cc,A0,A1,Bo,B5,ofOpt,Nat.reduceLT,Nat.reduceEqDiff,Aa,Ab,Ac,Ae,Aj,Ak,Tryz.f77,hf1]
 refine WC.mono (Wr _ p k ts i h hp hi) ?_
 rintro _ ⟨S2,rfl,hk⟩
 by_cases h5:(tk ts i).kind=5
 ·have n5:(((ts[i].kind:Nat):Int) != 5)=false:=by rw [← e0,h5]; rfl
  simp only [Br,A6,Bq,A4,Bh,A7,A9,A8,Bk,Cr,A5,Bc,Ba,A0,A1,Bo,B5,ofOpt,Bb,B9,Bv,C2,Nat.reduceLT,Nat.reduceEqDiff,Aa,Ab,Ac,Aj,Ak,Am,J7,D0,n5]
  exact ⟨_,hk,.inl ⟨h5,rfl⟩⟩
 ·have n5:(((ts[i].kind:Nat):Int) != 5)=true:=by rw [← e0,bne_iff_ne]; omega
  simp only [Br,A6,Bq,A4,Bh,A7,A9,Bd,A8,Bk,Cw,A5,Bc,Ba,A0,A1,Bo,B5,ofOpt,Bb,B9,Bv,C2,Nat.reduceLT,Nat.reduceEqDiff,Aa,Ab,Ac,Aj,Ak,Am,J7,D0,n5,hf2]
  refine WC.mono (cI S2 p k ts i (h.keep hp hk) (Nat.lt_of_lt_of_le hp hk.1) hi) ?_
  rintro _ ⟨S3,rfl,hk3⟩
  simp only [Ca,B3]
  exact ⟨_,hk.trans hk3,.inr ⟨h5,by rw [e0]⟩⟩
def nilT (r:OR) (S:St) (x:Option AV):OR:=match x with
 | some (.v .nilIface)=>.val (.v (.bool true)) S
 | _=>r
theorem eqOr20 (f:T AV) (S:St) (k:Nat) (dst:Option Tmp) (ty:TypeId) (pos:String) (af:Array Edge) (gd:Option (Nat × Bool)) :
  Ma Tryz.prog gR f S { dst:=dst,op:=.binOp .eql 20 (.tmp k) (.const .nilIface) 20,type:=ty,pos:=pos,after:=af,guard:=gd } .eql 20 (.v .nilIface) (.v .nilIface) =
  nilT (eH Tryz.prog gR f S { dst:=dst,op:=.binOp .eql 20 (.tmp k) (.const .nilIface) 20,type:=ty,pos:=pos,after:=af,guard:=gd } .eql 20 (.v .nilIface) (.v .nilIface)) S (f.get k):=by
 unfold nilT
 split
 ·rename_i hf
  have h0:Lh Tryz.prog .eql 20 (.v .nilIface) (.v .nilIface)=none:=by kernel_rfl
  unfold Ma
  rw [h0]
  have hg:Dm gR f (.tmp k)=some .nilIface:=by unfold Dm; simp only [Ba,hf]; rfl
  have hc:Dm gR f (.const .nilIface)=some .nilIface:=rfl
  unfold ground
  simp only [Op.operands,List.all_cons,List.all_nil,hg,hc,Option.isSome_some,Bool.and_self,Aa]
  have e:execOp (fun x=>(Dm gR f x).getD undef) { dst:=dst,op:=.binOp .eql 20 (.tmp k) (.const .nilIface) 20,type:=ty,pos:=pos,after:=af,guard:=gd }=execOp (fun _=>.nilIface) { dst:=none,op:=.binOp .eql 20 (.tmp 29) (.const .nilIface) 20,type:=4,pos := "", after:=#[],guard:=none }:=by
   simp only [execOp,hg,hc,Ae]
   rfl
  rw [e]
  have e3:(P3 Tryz.prog 4000 (execOp (fun _=>Value.nilIface) { dst:=none,op:=.binOp .eql 20 (.tmp 29) (.const .nilIface) 20,type:=4,pos := "", after:=#[],guard:=none }))=some (.bool true):=by kernel_rfl
  rw [e3]; rfl
 ·rfl
theorem qL (r:OR) (S:St):nilT r S (some (.v .nilIface))=.val (.v (.bool true)) S:=rfl
theorem fbNilT:Ea .eql (.v .nilIface) (.v .nilIface)=none:=rfl
theorem as33 (a e:Nat):Wp Tryz.prog 33 true (.iface 33 (.agg (Dc a e)))=some (.tup [.agg (Dc a e),.v (.bool true)]):=by kernel_rfl
theorem nn20:Hs Tryz.prog 20 (.v .nilIface) (.v .nilIface)=false:=by kernel_rfl
theorem nn20i (t:TypeId) (a:AV):Hs Tryz.prog 20 (.iface t a) (.v .nilIface)=true:=by kernel_rfl
end Go.Ax
noncomputable section
namespace Go.Ax
open Go.RowKit Go.Proofs
set_option maxRecDepth 100000
theorem fnOk25:∃ fn,E1.F 25=some fn:=Option.isSome_iff_exists.1 (by kernel_rfl)
theorem fnOk77:∃ fn,E1.F 77=some fn:=Option.isSome_iff_exists.1 (by kernel_rfl)
section
variable {p k:Nat} {ts:List Tk} (hts:TokOk ts)
include hts
end
theorem kB {E:Env} {rs:List ResultVar} {Q:R → Prop} {t:T AV} {S:St}:finD E rs Q (.out .ret ⟨t,[]⟩ S)=By E rs ⟨t,[]⟩ S Q:=id rfl
theorem nM {E:Env} {rs:List ResultVar} {Q:R → Prop} {t:T AV} {S:St} {k:FuncId} {caps args:List AV}:finD E rs Q (.out .normal ⟨t,[⟨.func k,caps,args⟩]⟩ S)=gH E k (args ++ caps) S none (fun S'=>Q2 E rs ⟨t,[⟨.func k,caps,args⟩]⟩ S' Q):=id rfl
theorem Ul {E:Env} {rs:List ResultVar} {Q:R → Prop} {t:T AV} {S:St} {k:FuncId} {caps args:List AV} {a:AV}:finD E rs Q (.out (.pan a) ⟨t,[⟨.func k,caps,args⟩]⟩ S)=gH E k (args ++ caps) S (some a) (fun S'=>Q2 E rs ⟨t,[⟨.func k,caps,args⟩]⟩ S' Q):=id rfl
theorem xC:Fm Tryz.prog 33=some true:=by kernel_rfl
theorem nR (b:Nat):C9 Tryz.prog 33 (.ptr b 0) 1=some (.ptr b 1):=by kernel_rfl
theorem zQ {S:St} {id a e:Nat} (h:S.mem.get id=some (.box (Dc a e))):C3 Tryz.prog S 31 (.ptr id 1)=some (.v (.int .i64 (e:Int))):=by
 have a31:Fm Tryz.prog 31=some false:=by kernel_rfl
 simp [C3,Dr,h,a31,Dc,D0]
theorem b144 (tok:Nat) (es:List AV):Ho Tryz.prog 144 [(0,.sl tok 0 4 es)]=some (.agg [.sl tok 0 4 es,D0 0]):=by kernel_rfl
theorem b146t (tok:Nat) (es:List AV):Ho Tryz.prog 146 [(0,.agg [.sl tok 0 4 es,D0 0])]=some (.agg [.sl tok 0 4 es,D0 0]):=by kernel_rfl
end Go.Ax
noncomputable section
namespace Go.Ax
open Go.RowKit Go.Proofs
set_option maxRecDepth 100000
theorem next_kind {l:List UInt8} {i:Nat} {t:Tk} (h:H7 l i=some (t,0)):t.kind ≠ 5:=by
 unfold H7 at h
 split at h
 ·cases h
 ·rename_i b r
  split at h
  ·injection h with h
   unfold Mz at h
   split at h
   ·injection h with h1 h2; subst h1; exact fun e=>by cases e
   ·split at h
    ·injection h with h1 h2; cases h2
    ·injection h with h1 h2; subst h1; exact fun e=>by cases e
  ·split at h
   ·unfold Wq at h
    split at h
    ·injection h with h; injection h with h1 h2; cases h2
    ·split at h
     ·split at h
      ·injection h with h; injection h with h1 h2; cases h2
      ·injection h with h; injection h with h1 h2; subst h1; exact fun e=>by cases e
     ·injection h with h; injection h with h1 h2; cases h2
   ·injection h with h
    unfold Ll at h
    split at h
    ·injection h with h1 h2; subst h1; exact fun e=>by cases e
    ·injection h with h1 h2; cases h2
theorem allF_ok (l:List UInt8):∀ (n i:Nat) (ts:List Tk),N0 l n i=some (.inr ts) → 0 < ts.length ∧ (∀ j (h:j < ts.length),ts[j].kind ≠ 5 → j + 1 < ts.length) ∧ (∀ j (h:j < ts.length),ts[j].kind=5 → ts[j].text=[]) ∧ ts.length ≤ n
 | 0,i,ts,h=>by cases h
 | n + 1,i,ts,h=>by
  unfold N0 at h
  split at h
  ·split at h
   ·cases h
   ·rename_i p hp
    split at h
    ·rename_i he
     split at h
     ·cases h
     ·cases h
     ·rename_i ts2 h2
      injection h with h; injection h with h; subst h
      obtain ⟨a1,a2,a3,a4⟩:=allF_ok l n _ ts2 h2
      have hk:p.1.kind ≠ 5:=next_kind (i:=i) (by rw [hp,← he])
      refine ⟨by simp,fun j hj hne=>?_,fun j hj he5=>?_,by simp; omega⟩
      ·cases j with
       | zero=>simp; omega
       | succ j =>
        have:=a2 j (by simpa using hj) (by simpa using hne)
        simp; omega
      ·cases j with
       | zero=>exact absurd he5 hk
       | succ j=>exact a3 j (by simpa using hj) (by simpa using he5)
    ·cases h
  ·injection h with h; injection h with h; subst h
   refine ⟨by simp,fun j hj hne=>?_,fun j hj he5=>?_,by simp⟩
   ·have:j=0:=by simp at hj; exact hj
    subst this
    exact absurd rfl hne
   ·have:j=0:=by simp at hj; exact hj
    subst this
    rfl
theorem sY (l:List UInt8):∀ (n i:Nat) (x:Nat × Nat),N0 l n i=some (.inl x) → x.2 ≠ 0
 | 0,i,x,h=>by cases h
 | n + 1,i,x,h=>by
  unfold N0 at h
  split at h
  ·split at h
   ·cases h
   ·rename_i p hp
    split at h
    ·split at h
     ·cases h
     ·rename_i y h2
      injection h with h; injection h with h; subst h
      exact sY l n _ _ h2
     ·cases h
    ·rename_i he
     injection h with h; injection h with h; subst h
     exact he
  ·cases h
theorem Uf {l:List UInt8} {ts:List Tk} (h:Kp l=some (.inr ts)):TokOk ts ∧ 0 < ts.length:=by
 unfold Kp at h
 split at h
 ·cases h
 ·obtain ⟨a1,a2,a3,a4⟩:=allF_ok l _ _ ts h
  exact ⟨⟨a2,a3,by omega⟩,a1⟩
theorem dL {l:List UInt8} {x:Nat × Nat} (h:Kp l=some (.inl x)):x.2 ≠ 0:=by
 unfold Kp at h
 split at h
 ·injection h with h; injection h with h; subst h; exact fun e=>by cases e
 ·exact sY l _ _ x h
end Go.Ax
noncomputable section
namespace Go.Ax
open Go.RowKit Go.Proofs
set_option maxRecDepth 100000
end Go.Ax
noncomputable section
namespace Go.Ax
open Go.RowKit Go.Proofs
set_option maxRecDepth 100000
theorem fnOk45:∃ fn,E1.F 45=some fn:=Option.isSome_iff_exists.1 (by kernel_rfl)
theorem fnOk44:∃ fn,E1.F 44=some fn:=Option.isSome_iff_exists.1 (by kernel_rfl)
def U4 (ts:List Tk) (n i:Nat):PR PE:=Gs (P ts n .expr) i
section
variable {p k:Nat} {ts:List Tk} (hts:TokOk ts)
include hts
set_option maxHeartbeats 16000000 in
theorem wholeE_p (h2p:2 ≤ p) (n:Nat) (hn:n ≤ 1000000) (S:St) (i:Nat) (h:Cur S p k ts i) (hp:p < S.next) (hi:i < ts.length) (ho:U4 ts n i ≠ .out):WC E1 45 [.ptr p 0] S (Oo p k ts S RepE (U4 ts n i)):=by
 refine Dx Tryz.f45 (by kernel_rfl) (by kernel_rfl) (by kernel_rfl) (show (_:Nat) ≤ _ from by show (_:Nat) ≤ _; simp [Tryz.f45]) ?_
 obtain ⟨fn1,hf1⟩:=fnOk46
 have rd:Reads p k ts n:=Pk hts h2p n hn
 obtain ⟨x1,c1,br,hp1⟩:=I8 h hp
 simp only [B8,Cf,C8,Da,Br,A6,Ch,Bl,Bq,Bt,D5,Dk,Bw,A4,Cq,Cv,B6,B4,Cs,Cu,Cp,Bh,A7,Ct,A9,Bm,Bd,Di,Bn,A8,Bk,Ca,Cw,Cr,A5,Bc,Ba,Cc,A0,A1,Bo,B5,ofOpt,ofOptS,Bb,B9,Fb,Bu,Bv,Bg,B3,By,Bf,Cl,Co,Cx,Dd,Ej,Do,Er,Dl,B7,C2,Nat.reduceLT,Nat.reduceAdd,Nat.reduceEqDiff,Aa,Ab,reduceIte,Ac,Ad,Ae,Af,Ag,Ah,Ai,Aj,Ak,Al,Am,Ao,Ap,Aq,Ar,Au,Av,Aw,Option.toList,Ay,Az,Tryz.f45,Mv,Cj,Gx,Iu,hf1,Fy]
 refine WC.mono (X6 hts 47 (P ts n .expr) dX rd.expr (fS n hn .expr) _ _ c1 hp1 hi (Re ho)) ?_
 unfold U4 at ho ⊢
 cases hX:Gs (P ts n .expr) i with
 | out=>exact absurd hX ho
 | bad a e =>
  rintro _ ⟨S4,rfl,x4⟩
  simp only [B8,Cf,C8,Da,Br,A6,Ch,Bl,Bq,Bt,D5,Dk,Bw,A4,Cq,Cv,B6,B4,Cs,Cu,Cp,Bh,A7,Ct,A9,Bm,Bd,Di,Bn,A8,Bk,Ca,Cw,Cr,A5,Bc,Ba,Cc,A0,A1,Bo,B5,ofOpt,ofOptS,Bb,B9,Fb,Bu,Bv,Bg,B3,By,Bf,Cl,Co,Cx,Dd,Ej,Do,Er,Dl,B7,C2,Nat.reduceLT,Nat.reduceAdd,Nat.reduceEqDiff,Aa,Ab,reduceIte,Ac,Ad,Ae,Af,Ag,Ah,Ai,Aj,Ak,Al,Am,Ao,Ap,Aq,Ar,Au,Av,Aw,Option.toList,Ay,Az,Tryz.f45,Mv,Cj,Gx,Iu]
  exact ⟨_,rfl,x1.trans x4⟩
 | ok a j =>
  rintro _ ⟨v,S4,rfl,hr,x4,c4,hj⟩
  obtain ⟨xs,rfl,hl⟩:=RepE.agg hr
  obtain ⟨g1,g2,gx,gc⟩:=F6 (S0:=S) c4 (br.keep x4) rfl (Nat.le_refl _) (x1.trans x4) (xs:=xs) hl
  simp only [B8,Cf,C8,Da,Br,A6,Ch,Bl,Bq,Bt,D5,Dk,Bw,A4,Cq,Cv,B6,B4,Cs,Cu,Cp,Bh,A7,Ct,A9,Bm,Bd,Di,Bn,A8,Bk,Ca,Cw,Cr,A5,Bc,Ba,Cc,A0,A1,Bo,B5,ofOpt,ofOptS,Bb,B9,Fb,Bu,Bv,Bg,B3,By,Bf,Cl,Co,Cx,Dd,Ej,Do,Er,Dl,B7,C2,Nat.reduceLT,Nat.reduceAdd,Nat.reduceEqDiff,Aa,Ab,reduceIte,Ac,Ad,Ae,Af,Ag,Ah,Ai,Aj,Ak,Al,Am,Ao,Ap,Aq,Ar,Au,Av,Aw,Option.toList,Ay,Az,Tryz.f45,Mv,Cj,Gx,Iu,g1,g2]
  exact ⟨_,_,rfl,hr,gx,gc,hj⟩
end
end Go.Ax
noncomputable section
namespace Go.Ax
open Go.RowKit Go.Proofs
set_option maxRecDepth 100000
theorem uI (S:St) (b:Nat) (K:St → Prop) (hK:K S):gH E1 76 [.ptr b 0] S none K:=by
 refine ⟨Tryz.f76,_,_,_,_,_,by kernel_rfl,rfl,rfl,rfl,(show (_:Nat) ≤ _ from by show (_:Nat) ≤ _; simp [Tryz.f76]),(show (_:Nat) < _ from by show (_:Nat) < _; simp [Tryz.f76]),rfl,El ?_⟩
 simp only [B8,Cf,C8,Da,Br,A6,Ch,Bl,Bq,Bt,D5,Dk,Bw,A4,Cq,Cv,B6,B4,Cs,Cu,Cp,Bh,A7,Ct,A9,Bm,Bd,Di,Bn,A8,Bk,Ca,Cw,Cr,A5,Bc,Ba,Cc,A0,A1,Bo,B5,ofOpt,ofOptS,Bb,B9,Fb,Bu,Bv,Bg,B3,By,Bf,Cl,Co,Cx,Dd,Ej,Do,Er,Dl,B7,C2,Nat.reduceLT,Nat.reduceAdd,Nat.reduceEqDiff,Aa,Ab,reduceIte,Ac,Ad,Ae,Af,Ag,Ah,Ai,Aj,Ak,Al,Am,Ao,Ap,Aq,Ar,Au,Av,Aw,Option.toList,Ay,Az,Tryz.f76,Fy,Mv,Cj,Gx,Iu,nn20,fbNilT,eqOr20,qL,Option.getD_none]
 exact ⟨_,_,.inl rfl,rfl,hK⟩
theorem cJ (S:St) (b a e:Nat) (cs:List AV) (hb:S.mem.get b=some (.box cs)) (hl:cs.length=2) (hbn:b < S.next) (K:St → Prop) (hK:∀ S',S'.mem.get b=some (.box (Dc a e)) → S.next ≤ S'.next → (∀ id,id < S.next → id ≠ b → S'.mem.get id=S.mem.get id) → K S'):gH E1 76 [.ptr b 0] S (some (Ut a e)) K:=by
 refine ⟨Tryz.f76,_,_,_,_,_,by kernel_rfl,rfl,rfl,rfl,(show (_:Nat) ≤ _ from by show (_:Nat) ≤ _; simp [Tryz.f76]),(show (_:Nat) < _ from by show (_:Nat) < _; simp [Tryz.f76]),rfl,El ?_⟩
 unfold Ut
 have q1:C7 Tryz.prog (S.newBox (Dc 0 0)) 33 (.ptr S.next 0) (.agg (Dc a e))=some ((S.newBox (Dc 0 0)).put S.next (Dc a e)):=O2 (Db S _) rfl rfl
 have q2:=H9 (S.newBox (Dc 0 0)) S.next (Dc a e) rfl
 have q3:C7 Tryz.prog ((S.newBox (Dc 0 0)).put S.next (Dc a e)) 33 (.ptr b 0) (.agg (Dc a e))=some (((S.newBox (Dc 0 0)).put S.next (Dc a e)).put b (Dc a e)):=O2 ((Et (by omega)).trans ((Gc hbn).trans hb)) hl rfl
 simp only [B8,Cf,C8,Da,Br,A6,Ch,Bl,Bq,Bt,D5,Dk,Bw,A4,Cq,Cv,B6,B4,Cs,Cu,Cp,Bh,A7,Ct,A9,Bm,Bd,Di,Bn,A8,Bk,Ca,Cw,Cr,A5,Bc,Ba,Cc,A0,A1,Bo,B5,ofOpt,ofOptS,Bb,B9,Fb,Bu,Bv,Bg,B3,By,Bf,Cl,Co,Cx,Dd,Ej,Do,Er,Dl,B7,C2,Nat.reduceLT,Nat.reduceAdd,Nat.reduceEqDiff,Aa,Ab,reduceIte,Ac,Ad,Ae,Af,Ag,Ah,Ai,Aj,Ak,Al,Am,Ao,Ap,Aq,Ar,Au,Av,Aw,Option.toList,Ay,Az,Tryz.f76,Fy,Mv,Cj,Gx,Iu,nn20i,as33,q1,q2,q3]
 exact ⟨_,_,.inl rfl,rfl,hK _ (Ek _ _ _) (by rw [Od]; exact Nat.le_succ _) (fun id hid hn=>(Et hn).trans ((Et (by omega)).trans (Gc hid)))⟩
def P1 (n:Nat) (out:(Nat × Nat) ⊕ List Tk):Option (PE ⊕ (Nat × Nat)):=match out with
 | .inl x=>some (.inr x)
 | .inr ts=>match U4 ts n 0 with
  | .ok l j=>if (tk ts j).kind=5 then some (.inl l) else some (.inr ((tk ts j).pos,G6 (tk ts j)))
  | .bad a e=>some (.inr (a,e))
  | .out=>none
def lI (S:St) (x:Option (PE ⊕ (Nat × Nat))) (r:R):Prop:=match x with
 | some (.inl e)=>∃ xs S',r=.ret (.tup [.agg xs,.agg (Dc 0 0)]) S' ∧ RepE (.agg xs) e ∧ Eg S S'
 | some (.inr y)=>∃ S',r=.ret (.tup [.agg exZ,.agg (Dc y.1 y.2)]) S' ∧ Eg S S'
 | none=>True
set_option maxHeartbeats 16000000 in
theorem readE_p (l:List UInt8) (S:St) (hS:2 ≤ S.next) (hsz:l.length ≤ 1000000) (out:(Nat × Nat) ⊕ List Tk) (hlx:Kp l=some out) (n:Nat) (hn:n ≤ 1000000) (hok:∀ ts,out=.inr ts → U4 ts n 0 ≠ .out):WC E1 44 [Bp l,.fn (.func 45) [] []] S (lI S (P1 n out)):=by
 refine WC_dfr Tryz.f44 (by kernel_rfl) (by kernel_rfl) (by kernel_rfl) (show (_:Nat) ≤ _ from by show (_:Nat) ≤ _; simp [Tryz.f44]) (El ?_)
 obtain ⟨fn1,hf1⟩:=fnOk25
 obtain ⟨fn2,hf2⟩:=fnOk45
 obtain ⟨fn3,hf3⟩:=fnOk77
 have k0:=C4 S exZ
 have g40:=Db S exZ
 have l40:S.next < (S.newBox exZ).next:=Nat.lt_succ_self _
 generalize hS0:S.newBox exZ=S0 at k0 g40 l40
 have k1:=C4 S0 (Dc 0 0)
 have g50:=Db S0 (Dc 0 0)
 have l50:S0.next < (S0.newBox (Dc 0 0)).next:=Nat.lt_succ_self _
 have h2:2 ≤ (S0.newBox (Dc 0 0)).next:=by have:=k0.1; have:=k1.1; omega
 simp only [B8,Cf,C8,Da,Br,A6,Ch,Bl,Bq,Bt,D5,Dk,Bw,A4,Cq,Cv,B6,B4,Cs,Cu,Cp,Bh,A7,Ct,A9,Bm,Bd,Di,Bn,A8,Bk,Ca,Cw,Cr,A5,Bc,Ba,Cc,A0,A1,Bo,B5,ofOpt,ofOptS,Bb,B9,Fb,Bu,Bv,Bg,B3,By,Bf,Cl,Co,Cx,Dd,Ej,Do,Er,Dl,B7,C2,Nat.reduceLT,Nat.reduceAdd,Nat.reduceEqDiff,Aa,Ab,reduceIte,Ac,Ad,Ae,Af,Ag,Ah,Ai,Aj,Ak,Al,Am,Ao,Ap,Aq,Ar,Au,Av,Aw,Option.toList,Ay,Az,Tryz.f44,Fy,Mv,Cj,Gx,Iu,hf1,hS0]
 refine WC.mono (all_w l (S0.newBox (Dc 0 0)) h2 hsz out hlx) ?_
 cases out with
 | inl x =>
  rintro _ ⟨S2,rfl,k2⟩
  have hx2:=dL hlx
  have q1:C7 Tryz.prog (S2.newBox (Dc 0 0)) 33 (.ptr S2.next 0) (.agg (Dc x.1 x.2))=some ((S2.newBox (Dc 0 0)).put S2.next (Dc x.1 x.2)):=O2 (Db S2 _) rfl rfl
  have g1:=Ek (S2.newBox (Dc 0 0)) S2.next (Dc x.1 x.2)
  have k3:Eg S2 ((S2.newBox (Dc 0 0)).put S2.next (Dc x.1 x.2)):=Ee (C4 S2 _) (Nat.le_refl _) _
  have l7:=k2.1
  generalize hS3:(S2.newBox (Dc 0 0)).put S2.next (Dc x.1 x.2)=S3 at q1 g1 k3
  have q2:=zQ g1
  have n1:(((x.2:Nat):Int) != 0)=true:=by rw [bne_iff_ne]; omega
  have q3:=ldG xC s33 g1 rfl
  have g5:S3.mem.get S0.next=some (.box (Dc 0 0)):=((k2.trans k3).2 _ l50).trans g50
  have g4:S3.mem.get S.next=some (.box exZ):=((k2.trans k3).2 _ (Nat.lt_trans l40 l50)).trans ((k1.2 _ l40).trans g40)
  have q6:=ld30 g4 rfl
  have q7:C7 Tryz.prog S3 30 (.ptr S.next 0) (.agg exZ)=some (S3.put S.next exZ):=Sg g4 rfl rfl
  have g7:(S3.put S.next exZ).mem.get S2.next=some (.box (Dc x.1 x.2)):=(Et (by omega)).trans g1
  have q8:=ldG xC s33 g7 rfl
  have q4:C7 Tryz.prog (S3.put S.next exZ) 33 (.ptr S0.next 0) (.agg (Dc x.1 x.2))=some ((S3.put S.next exZ).put S0.next (Dc x.1 x.2)):=O2 ((Et (by omega)).trans g5) rfl rfl
  have q5:=H9 (S3.put S.next exZ) S0.next (Dc x.1 x.2) rfl
  have q9:C3 Tryz.prog ((S3.put S.next exZ).put S0.next (Dc x.1 x.2)) 30 (.ptr S.next 0)=some (.agg exZ):=ld30 ((Et (by omega)).trans (Ek _ _ _)) rfl
  have bq:Gr (.agg (Dc x.1 x.2)) (.agg (Dc x.1 x.2))=true:=by simp [Gr,Om,Dc,D0,eqS]
  simp only [B8,Cf,C8,Da,Br,A6,Ch,Bl,Bq,Bt,D5,Dk,Bw,A4,Cq,Cv,B6,B4,Cs,Cu,Cp,Bh,A7,Ct,A9,Bm,Bd,Di,Bn,A8,Bk,Ca,Cw,Cr,A5,Bc,Ba,Cc,A0,A1,Bo,B5,ofOpt,ofOptS,Bb,B9,Fb,Bu,Bv,Bg,B3,By,Bf,Cl,Co,Cx,Dd,Ej,Do,Er,Dl,B7,C2,Nat.reduceLT,Nat.reduceAdd,Nat.reduceEqDiff,Aa,Ab,reduceIte,Ac,Ad,Ae,Af,Ag,Ah,Ai,Aj,Ak,Al,Am,Ao,Ap,Aq,Ar,Au,Av,Aw,Option.toList,Ay,Az,Tryz.f44,Fy,Mv,Cj,Gx,Iu,q1,nR,q2,Ud,n1]
  refine G4 [(0,true),(1,true),(2,true),(1,false),(3,true)] (by kernel_rfl) (by kernel_rfl) ?_
  simp only [B8,Cf,C8,Da,Br,A6,Ch,Bl,Bq,Bt,D5,Dk,Bw,A4,Cq,Cv,B6,B4,Cs,Cu,Cp,Bh,A7,Ct,A9,Bm,Bd,Di,Bn,A8,Bk,Ca,Cw,Cr,A5,Bc,Ba,Cc,A0,A1,Bo,B5,ofOpt,ofOptS,Bb,B9,Fb,Bu,Bv,Bg,B3,By,Bf,Cl,Co,Cx,Dd,Ej,Do,Er,Dl,B7,C2,Nat.reduceLT,Nat.reduceAdd,Nat.reduceEqDiff,Aa,Ab,reduceIte,Ac,Ad,Ae,Af,Ag,Ah,Ai,Aj,Ak,Al,Am,Ao,Ap,Aq,Ar,Au,Av,Aw,Option.toList,Ay,Az,Tryz.f44,Fy,Mv,Cj,Gx,Iu,Ew,Dj,Iv,Hi,Dw,Eo,Dp,Ha,Em,C6,D8,Ff,D2,Fl,Gu,Dy,Ed,F2,Hz,q3,q6,q7,q8,bq,q4,q5,q9,kB]
  exact ⟨_,rfl,Ee (Ee (k0.trans (k1.trans (k2.trans k3))) (Nat.le_refl _) _) (Nat.le_of_lt l40) _⟩
 | inr ts =>
  rintro _ ⟨S2,tok,rfl,k2⟩
  obtain ⟨hts,h0⟩:=Uf hlx
  have hpo:=hok ts rfl
  have q1:C7 Tryz.prog (S2.newBox (Dc 0 0)) 33 (.ptr S2.next 0) (.agg (Dc 0 0))=some ((S2.newBox (Dc 0 0)).put S2.next (Dc 0 0)):=O2 (Db S2 _) rfl rfl
  have g1:=Ek (S2.newBox (Dc 0 0)) S2.next (Dc 0 0)
  have k3:Eg S2 ((S2.newBox (Dc 0 0)).put S2.next (Dc 0 0)):=Ee (C4 S2 _) (Nat.le_refl _) _
  generalize hS3:(S2.newBox (Dc 0 0)).put S2.next (Dc 0 0)=S3 at q1 g1 k3
  have q2:=zQ g1
  have n1:(((0:Nat):Int) != 0)=false:=rfl
  have g5:S3.mem.get S0.next=some (.box (Dc 0 0)):=((k2.trans k3).2 _ l50).trans g50
  have g4:S3.mem.get S.next=some (.box exZ):=((k2.trans k3).2 _ (Nat.lt_trans l40 l50)).trans ((k1.2 _ l40).trans g40)
  have l5:S0.next < S3.next:=Nat.lt_of_lt_of_le l50 (k2.trans k3).1
  have l4:S.next < S3.next:=Nat.lt_trans l40 l5
  have kk:=k0.trans (k1.trans (k2.trans k3))
  simp only [B8,Cf,C8,Da,Br,A6,Ch,Bl,Bq,Bt,D5,Dk,Bw,A4,Cq,Cv,B6,B4,Cs,Cu,Cp,Bh,A7,Ct,A9,Bm,Bd,Di,Bn,A8,Bk,Ca,Cw,Cr,A5,Bc,Ba,Cc,A0,A1,Bo,B5,ofOpt,ofOptS,Bb,B9,Fb,Bu,Bv,Bg,B3,By,Bf,Cl,Co,Cx,Dd,Ej,Do,Er,Dl,B7,C2,Nat.reduceLT,Nat.reduceAdd,Nat.reduceEqDiff,Aa,Ab,reduceIte,Ac,Ad,Ae,Af,Ag,Ah,Ai,Aj,Ak,Al,Am,Ao,Ap,Aq,Ar,Au,Av,Aw,Option.toList,Ay,Az,Tryz.f44,Fy,Mv,Cj,Gx,Iu,q1,nR,q2,Ud,n1,b144,b146t,Cd,Ce,hf2]
  have cu:Cur (S3.newBox [.sl tok 0 4 (ts.map Fp),D0 0]) S3.next tok ts 0:=Db S3 _
  have k4:=C4 S3 [.sl tok 0 4 (ts.map Fp),D0 0]
  have b5:Has S3.next (S3.newBox [.sl tok 0 4 (ts.map Fp),D0 0]) S0.next (Dc 0 0):=⟨(k4.2 _ l5).trans g5,Nat.lt_succ_of_lt l5,by omega⟩
  have b4:Has S3.next (S3.newBox [.sl tok 0 4 (ts.map Fp),D0 0]) S.next exZ:=⟨(k4.2 _ l4).trans g4,Nat.lt_succ_of_lt l4,by omega⟩
  have toK:∀ S',Ez S3.next (S3.newBox [.sl tok 0 4 (ts.map Fp),D0 0]) S' → Eg S3 S':=fun S' x=>⟨Nat.le_trans (Nat.le_succ _) x.1,fun id hid=>(x.2 id (Nat.lt_succ_of_lt hid) (by omega)).trans (k4.2 id hid)⟩
  refine WC.mono (wholeE_p hts (Nat.le_trans hS kk.1) n hn _ 0 cu (Nat.lt_succ_self _) h0 hpo) ?_
  unfold P1
  simp only
  cases hX:U4 ts n 0 with
  | out=>exact absurd hX hpo
  | bad a e =>
   rintro _ ⟨S5,rfl,x5⟩
   have b6:=b5.keep x5
   have b7:=b4.keep x5
   simp only [B8,Cf,C8,Da,Br,A6,Ch,Bl,Bq,Bt,D5,Dk,Bw,A4,Cq,Cv,B6,B4,Cs,Cu,Cp,Bh,A7,Ct,A9,Bm,Bd,Di,Bn,A8,Bk,Ca,Cw,Cr,A5,Bc,Ba,Cc,A0,A1,Bo,B5,ofOpt,ofOptS,Bb,B9,Fb,Bu,Bv,Bg,B3,By,Bf,Cl,Co,Cx,Dd,Ej,Do,Er,Dl,B7,C2,Nat.reduceLT,Nat.reduceAdd,Nat.reduceEqDiff,Aa,Ab,reduceIte,Ac,Ad,Ae,Af,Ag,Ah,Ai,Aj,Ak,Al,Am,Ao,Ap,Aq,Ar,Au,Av,Aw,Option.toList,Ay,Az,Tryz.f44,Fy,Mv,Cj,Gx,Iu,Ul]
   refine cJ S5 S0.next a e (Dc 0 0) b6.get rfl b6.lt _ ?_
   intro S6 g6 n6 k6
   have q6:=ldG xC s33 g6 rfl
   have q7:C3 Tryz.prog S6 30 (.ptr S.next 0)=some (.agg exZ):=ld30 ((k6 _ b7.lt (by omega)).trans b7.get) rfl
   unfold Q2
   simp only [B8,Cf,C8,Da,Br,A6,Ch,Bl,Bq,Bt,D5,Dk,Bw,A4,Cq,Cv,B6,B4,Cs,Cu,Cp,Bh,A7,Ct,A9,Bm,Bd,Di,Bn,A8,Bk,Ca,Cw,Cr,A5,Bc,Ba,Cc,A0,A1,Bo,B5,ofOpt,ofOptS,Bb,B9,Fb,Bu,Bv,Bg,B3,By,Bf,Cl,Co,Cx,Dd,Ej,Do,Er,Dl,B7,C2,Nat.reduceLT,Nat.reduceAdd,Nat.reduceEqDiff,Aa,Ab,reduceIte,Ac,Ad,Ae,Af,Ag,Ah,Ai,Aj,Ak,Al,Am,Ao,Ap,Aq,Ar,Au,Av,Aw,Option.toList,Ay,Az,Tryz.f44,Fy,Mv,Cj,Gx,Iu,q6,q7]
   have ka:=kk.trans (toK S5 x5)
   refine ⟨_,rfl,Nat.le_trans ka.1 n6,fun id hid=>?_⟩
   rw [k6 id (Nat.lt_of_lt_of_le hid ka.1) (by have:=k0.1; omega)]
   exact ka.2 id hid
  | ok e j =>
   rintro _ ⟨v,S5,rfl,hv,x5,c5,hj⟩
   obtain ⟨xs,rfl,hxl⟩:=RepE.agg hv
   have hp5:S3.next < S5.next:=Nat.lt_of_lt_of_le (Nat.lt_succ_self _) x5.1
   obtain ⟨S8,q8,x8,c8,b8,hp8⟩:=Ra c5 hp5 hxl
   have b6:=(b5.keep x5).keep x8
   have b7:=(b4.keep x5).keep x8
   simp only [B8,Cf,C8,Da,Br,A6,Ch,Bl,Bq,Bt,D5,Dk,Bw,A4,Cq,Cv,B6,B4,Cs,Cu,Cp,Bh,A7,Ct,A9,Bm,Bd,Di,Bn,A8,Bk,Ca,Cw,Cr,A5,Bc,Ba,Cc,A0,A1,Bo,B5,ofOpt,ofOptS,Bb,B9,Fb,Bu,Bv,Bg,B3,By,Bf,Cl,Co,Cx,Dd,Ej,Do,Er,Dl,B7,C2,Nat.reduceLT,Nat.reduceAdd,Nat.reduceEqDiff,Aa,Ab,reduceIte,Ac,Ad,Ae,Af,Ag,Ah,Ai,Aj,Ak,Al,Am,Ao,Ap,Aq,Ar,Au,Av,Aw,Option.toList,Ay,Az,Tryz.f44,Fy,Mv,Cj,Gx,Iu,q8,fp0,hf3]
   refine WC.mono (end_w S8 _ _ ts j c8 hp8 hj) ?_
   rintro _ ⟨S6,k6,⟨h5,rfl⟩ | ⟨h5,rfl⟩⟩
   ·simp only [if_pos h5]
    have b9:=b6.keep (k6.x _)
    have b10:=b7.keep (k6.x _)
    have l11:=(b8.keep (k6.x _)).ld30 hxl
    have q9:C7 Tryz.prog S6 30 (.ptr S.next 0) (.agg xs)=some (S6.put S.next xs):=Sg b10.get rfl hxl
    have q7:C7 Tryz.prog (S6.put S.next xs) 33 (.ptr S0.next 0) (.agg (Dc 0 0))=some ((S6.put S.next xs).put S0.next (Dc 0 0)):=O2 ((Et (by omega)).trans b9.get) rfl rfl
    have q10:=H9 (S6.put S.next xs) S0.next (Dc 0 0) rfl
    have q11:C3 Tryz.prog ((S6.put S.next xs).put S0.next (Dc 0 0)) 30 (.ptr S.next 0)=some (.agg xs):=ld30 ((Et (by omega)).trans (Ek _ _ _)) hxl
    simp only [B8,Cf,C8,Da,Br,A6,Ch,Bl,Bq,Bt,D5,Dk,Bw,A4,Cq,Cv,B6,B4,Cs,Cu,Cp,Bh,A7,Ct,A9,Bm,Bd,Di,Bn,A8,Bk,Ca,Cw,Cr,A5,Bc,Ba,Cc,A0,A1,Bo,B5,ofOpt,ofOptS,Bb,B9,Fb,Bu,Bv,Bg,B3,By,Bf,Cl,Co,Cx,Dd,Ej,Do,Er,Dl,B7,C2,Nat.reduceLT,Nat.reduceAdd,Nat.reduceEqDiff,Aa,Ab,reduceIte,Ac,Ad,Ae,Af,Ag,Ah,Ai,Aj,Ak,Al,Am,Ao,Ap,Aq,Ar,Au,Av,Aw,Option.toList,Ay,Az,Tryz.f44,Fy,Mv,Cj,Gx,Iu,l11,q9,b33_0,q7,nM]
    refine uI _ S0.next _ ?_
    unfold Q2
    simp only [B8,Cf,C8,Da,Br,A6,Ch,Bl,Bq,Bt,D5,Dk,Bw,A4,Cq,Cv,B6,B4,Cs,Cu,Cp,Bh,A7,Ct,A9,Bm,Bd,Di,Bn,A8,Bk,Ca,Cw,Cr,A5,Bc,Ba,Cc,A0,A1,Bo,B5,ofOpt,ofOptS,Bb,B9,Fb,Bu,Bv,Bg,B3,By,Bf,Cl,Co,Cx,Dd,Ej,Do,Er,Dl,B7,C2,Nat.reduceLT,Nat.reduceAdd,Nat.reduceEqDiff,Aa,Ab,reduceIte,Ac,Ad,Ae,Af,Ag,Ah,Ai,Aj,Ak,Al,Am,Ao,Ap,Aq,Ar,Au,Av,Aw,Option.toList,Ay,Az,Tryz.f44,Fy,Mv,Cj,Gx,Iu,q10,q11]
    exact ⟨xs,_,rfl,hv,Ee (Ee (kk.trans ((toK _ (x5.trans x8)).trans k6)) (Nat.le_refl _) _) (Nat.le_of_lt l40) _⟩
   ·simp only [if_neg h5]
    have b9:=b6.keep (k6.x _)
    have b10:=b7.keep (k6.x _)
    simp only [B8,Cf,C8,Da,Br,A6,Ch,Bl,Bq,Bt,D5,Dk,Bw,A4,Cq,Cv,B6,B4,Cs,Cu,Cp,Bh,A7,Ct,A9,Bm,Bd,Di,Bn,A8,Bk,Ca,Cw,Cr,A5,Bc,Ba,Cc,A0,A1,Bo,B5,ofOpt,ofOptS,Bb,B9,Fb,Bu,Bv,Bg,B3,By,Bf,Cl,Co,Cx,Dd,Ej,Do,Er,Dl,B7,C2,Nat.reduceLT,Nat.reduceAdd,Nat.reduceEqDiff,Aa,Ab,reduceIte,Ac,Ad,Ae,Af,Ag,Ah,Ai,Aj,Ak,Al,Am,Ao,Ap,Aq,Ar,Au,Av,Aw,Option.toList,Ay,Az,Tryz.f44,Fy,Mv,Cj,Gx,Iu,Ul]
    refine cJ S6 S0.next (tk ts j).pos (G6 (tk ts j)) (Dc 0 0) b9.get rfl b9.lt _ ?_
    intro S7 g7 n7 k7
    have q9:=ldG xC s33 g7 rfl
    have q12:C3 Tryz.prog S7 30 (.ptr S.next 0)=some (.agg exZ):=ld30 ((k7 _ b10.lt (by omega)).trans b10.get) rfl
    unfold Q2
    simp only [B8,Cf,C8,Da,Br,A6,Ch,Bl,Bq,Bt,D5,Dk,Bw,A4,Cq,Cv,B6,B4,Cs,Cu,Cp,Bh,A7,Ct,A9,Bm,Bd,Di,Bn,A8,Bk,Ca,Cw,Cr,A5,Bc,Ba,Cc,A0,A1,Bo,B5,ofOpt,ofOptS,Bb,B9,Fb,Bu,Bv,Bg,B3,By,Bf,Cl,Co,Cx,Dd,Ej,Do,Er,Dl,B7,C2,Nat.reduceLT,Nat.reduceAdd,Nat.reduceEqDiff,Aa,Ab,reduceIte,Ac,Ad,Ae,Af,Ag,Ah,Ai,Aj,Ak,Al,Am,Ao,Ap,Aq,Ar,Au,Av,Aw,Option.toList,Ay,Az,Tryz.f44,Fy,Mv,Cj,Gx,Iu,q9,q12]
    have ka:=kk.trans ((toK _ (x5.trans x8)).trans k6)
    refine ⟨_,rfl,Nat.le_trans ka.1 n7,fun id hid=>?_⟩
    rw [k7 id (Nat.lt_of_lt_of_le hid ka.1) (by have:=k0.1; omega)]
    exact ka.2 id hid
end Go.Ax
noncomputable section
namespace Go.Ax
open Go.RowKit Go.Proofs
set_option maxRecDepth 100000
def iD (v:AV) (es:List AV):Prop:=(v=.nils ∧ es=[]) ∨ ∃ tok off,v=.sl tok off 6 es
def rowN (v:AV) (es:List AV):Prop:=(v=.nils ∧ es=[]) ∨ (es ≠ [] ∧ ∃ tok off,v=.sl tok off 6 es)
theorem rowN.is {v:AV} {es:List AV} (h:rowN v es):iD v es:=h.elim .inl (fun h=>.inr h.2)
end Go.Ax
noncomputable section
namespace Go.Ax
open Go.RowKit Go.Proofs
set_option maxRecDepth 100000
theorem s28:Fo Tryz.prog 28=some 1:=by kernel_rfl
end Go.Ax
