/- Gc -/
import Derived.Test.YtjgknelmjdallaaGreatDoorTbG25
import Derived.Test.YtjgknelmjdallaaGreatDoorTbG23
set_option linter.unusedVariables false
set_option linter.unusedSimpArgs false
set_option maxHeartbeats 16000000
noncomputable section
namespace Go.Ax
open Go.RowKit Go.Proofs
set_option maxRecDepth 100000
def eqlBO (r:OR) (S:St) (x y:Option AV):OR:=match x,y with
 | some (.v (.bool a)),some (.v (.bool b))=>.val (.v (.bool (a == b))) S
 | _,_=>r
theorem Ni (r:OR) (S:St) (a b:Bool):eqlBO r S (some (.v (.bool a))) (some (.v (.bool b)))=.val (.v (.bool (a == b))) S:=_root_.id rfl
theorem fastEqBe (a b:Bool):La Tryz.prog .eql 4 (.v (.bool a)) (.v (.bool b))=none:=by cases a <;> cases b <;> kernel_rfl
theorem Ln (f:T AV) (S:St) (dst:Option Tmp) (k l:Tmp) (ty:TypeId) (pos:String) (af:Array Edge) (gd:Option (Nat × Bool)) (a b:Bool) :
  L1 Tryz.prog G7 f S { dst:=dst,op:=.binOp .eql 4 (.tmp k) (.tmp l) 4,type:=ty,pos:=pos,after:=af,guard:=gd } .eql 4 (.v (.bool a)) (.v (.bool b))=eqlBO (gH Tryz.prog G7 f S { dst:=dst,op:=.binOp .eql 4 (.tmp k) (.tmp l) 4,type:=ty,pos:=pos,after:=af,guard:=gd } .eql 4 (.v (.bool a)) (.v (.bool b))) S (f.get k) (f.get l):=by
 unfold eqlBO
 split
 ·rename_i x y h1 h2
  have hg1:Dc G7 f (.tmp k)=some (.bool x):=by unfold Dc; simp only [A8,h1]; rfl
  have hg2:Dc G7 f (.tmp l)=some (.bool y):=by unfold Dc; simp only [A8,h2]; rfl
  unfold L1
  rw [fastEqBe]
  simp only
  unfold ground
  have hall:((Op.binOp .eql 4 (.tmp k) (.tmp l) 4:Op).operands.toList.all fun x=>(Dc G7 f x).isSome)=true:=by
   show ([Operand.tmp k,Operand.tmp l].all fun x=>(Dc G7 f x).isSome)=true
   simp only [List.all_cons,List.all_nil,hg1,hg2,Option.isSome_some,Bool.and_self]
  refine (if_pos hall).trans ?_
  have e:execOp (fun x=>(Dc G7 f x).getD undef) { dst:=dst,op:=.binOp .eql 4 (.tmp k) (.tmp l) 4,type:=ty,pos:=pos,after:=af,guard:=gd }=execOp (dM (.bool x) (.bool y)) { dst:=none,op:=.binOp .eql 4 (.tmp 0) (.tmp 1) 4,type:=4,pos := "", after:=#[],guard:=none }:=by
   simp only [execOp,hg1,hg2,Ae]
   rfl
  rw [e]
  cases x <;> cases y <;> rfl
 ·rfl
def U2 (k a n:Int) (s:ByteArray) (b:Bool) (kv:AV):List AV:=[.v (.int .i64 k),.v (.int .i64 a),.v (.int .i64 n),.v (.string s),.v (.bool b),kv]
mutual
inductive RawE:AV → Prop where
 | mk (k a n:Int) (s:ByteArray) (b:Bool) (kv:AV) (hn:-9223372036854775808 ≤ n ∧ n ≤ 9223372036854775807) (h:RawK kv):RawE (.agg (U2 k a n s b kv))
inductive RawK:AV → Prop where
 | nil:RawK .nils
 | row (tok off:Nat) (es:List AV) (h:∀ e ∈ es,RawE e):RawK (.sl tok off 6 es)
 | emp (a:Addr):RawK (.v (.slice (some a) 0 0))
end
structure SomeE (d:Nat) (e:PE):Prop where
 good:GoodT e
 fit:Fit e
 few:Few e
 size:G8 e ≤ 4 ^ d
 deep:I7 e ≤ d
def W9 (c:Option Cell) (k:Nat):Option AV:=match c with
 | some (.box cs)=>cs[k]?
 | _=>none
theorem Gv (cs:List AV) (k:Nat):W9 (some (.box cs)) k=cs[k]?:=_root_.id rfl
theorem fV {t:TypeId} (ha:Fq Tryz.prog t=some false) (S:St) (p k:Nat):Ci Tryz.prog S t (.ptr p k)=W9 (S.mem.get p) k:=by
 unfold Ci Dv W9
 simp only [ha]
 cases h:S.mem.get p with
 | none=>simp only [h]
 | some c =>
  cases c with
  | box cs =>
   simp only [h]
   by_cases hk:k ≤ cs.length
   ·rw [if_pos hk]
    simp only
    cases hd:cs.drop k with
    | nil =>
     have hl:=congrArg List.length hd
     simp at hl
     rw [List.getElem?_eq_none (by omega)]; rfl
    | cons a r =>
     have h0:(cs.drop k)[0]? = some a:=by rw [hd]; rfl
     rw [List.getElem?_drop,Nat.add_zero] at h0
     rw [h0]; rfl
   ·rw [if_neg hk,List.getElem?_eq_none (by omega)]
  | tip m=>simp only [h]
  | mp es=>simp only [h]
theorem Rb (S:St) (p k:Nat):Ci Tryz.prog S 3 (.ptr p k)=W9 (S.mem.get p) k:=fV (by kernel_rfl) S p k
theorem pN (S:St) (p k:Nat):Ci Tryz.prog S 4 (.ptr p k)=W9 (S.mem.get p) k:=fV (by kernel_rfl) S p k
theorem dP (S:St) (p k:Nat):Ci Tryz.prog S 9 (.ptr p k)=W9 (S.mem.get p) k:=fV (by kernel_rfl) S p k
def V0 (lo:Nat) (S:St) (v:AV) (es:List AV):Prop:=(v=.nils ∧ es=[]) ∨ ∃ k,v=.sl (k + 2) 0 6 es ∧ S.mem.get (k + 2)=some (.tip (es.length * 6)) ∧ k + 2 < S.next ∧ lo ≤ k + 2
theorem fng_19:∃ fn,E9.F 19=some fn:=Option.isSome_iff_exists.1 (by kernel_rfl)
theorem fng_29:∃ fn,E9.F 29=some fn:=Option.isSome_iff_exists.1 (by kernel_rfl)
theorem isInt31:(match Tryz.prog.underlying 31 with | some (.int _)=>true | _=>false)=true:=by kernel_rfl
theorem nn31 (a b:AV):Hz Tryz.prog 31 a b=false:=by
 have h:=isInt31
 unfold Hz
 split at h
 ·rename_i k hu; rw [hu]
 ·cases h
def Jg (mn mm:AV) (a e:Nat):List AV:=[mn,mm,Dl a,Dl e]
def Jq (wrong:Bool) (at' err:Nat) (f:Nat × Nat):Nat × Nat:=if wrong=true ∧ f.2=0 then (at',err) else f
structure Sight (S:St) (s:Nat) (mn mm:AV) (f:Nat × Nat):Prop where
 box:S.mem.get s=some (.box (Jg mn mm f.1 f.2))
 lt:s < S.next
theorem fa125_0 (b:Nat):C2 Tryz.prog 125 (.ptr b 0) 0=some (.ptr b 0):=by kernel_rfl
theorem Sp (b:Nat):C2 Tryz.prog 125 (.ptr b 0) 1=some (.ptr b 1):=by kernel_rfl
theorem wZ (b:Nat):C2 Tryz.prog 125 (.ptr b 0) 2=some (.ptr b 2):=by kernel_rfl
theorem fa33_1x (b:Nat):C2 Tryz.prog 33 (.ptr b 2) 1=some (.ptr b 3):=by kernel_rfl
theorem ldc31 (S:St) (p k:Nat):Ci Tryz.prog S 31 (.ptr p k)=W9 (S.mem.get p) k:=fV (by kernel_rfl) S p k
theorem bld33 (a e:Nat):Gn Tryz.prog 33 [(0,.v (.int .i64 (a:Int))),(1,.v (.int .i64 (e:Int)))]=some (.agg (Dh a e)):=by kernel_rfl
theorem sz33z:Fm Tryz.prog 33=some 2:=by kernel_rfl
theorem st33s {S:St} {s:Nat} {mn mm:AV} {a e:Nat} (h:S.mem.get s=some (.box (Jg mn mm a e))) (a' e':Nat):Dk Tryz.prog S 33 (.ptr s 2) (.agg (Dh a' e'))=some (S.put s (Jg mn mm a' e')):=by
 simp [Dk,h,sz33z,AV.noTup,AV.cells,Dh,Jg,St.put]
theorem Uu {S:St} {s:Nat} {mn mm:AV} {f:Nat × Nat} (h:Sight S s mn mm f) (wrong:Bool) (at' err:Nat):WC E9 104 [.ptr s 0,.v (.bool wrong),Dl at',Dl err] S (fun r=>∃ S',r=.ret (.tup []) S' ∧ Sight S' s mn mm (Jq wrong at' err f) ∧ Eb s S S' ∧ S'.next=S.next):=by
 refine Dt Tryz.f104 (by kernel_rfl) (by kernel_rfl) (by kernel_rfl) (by show (_:Nat) ≤ _;simp [Tryz.f104]) ?_
 have hb:=h.box
 have l3:Ci Tryz.prog S 31 (.ptr s 3)=some (.v (.int .i64 (f.2:Int))):=by rw [ldc31,hb]; rfl
 cases wrong
 ·simp only [Bp,A6,Bk,Bn,A4,Bf,A7,Cq,Be,Bc,Cf,A5,Ba,A8,Cd,A0,A1,ofOpt,A9,Bv,By,Bg,Cn,Nat.reduceLT,Nat.reduceAdd,Nat.reduceEqDiff,Aa,Ab,Ac,Ae,Af,Ag,Ah,Ai,Am,Ar,Av,Es,Lr,Tryz.f104,Mb,nn31,Dl]
  exact ⟨_,rfl,by rw [show Jq false at' err f=f from by unfold Jq; simp]; exact h,⟨Nat.le_refl _,fun _ _ _=>rfl⟩,rfl⟩
 ·by_cases hf:f.2=0
  ·have e0:((f.2:Int) == 0)=true:=by rw [hf]; rfl
   have q1:=st33s hb at' err
   simp only [Bp,A6,Bk,Bn,A4,Bf,A7,Be,De,Dr,Bc,Ce,A5,Ba,A8,Cd,A0,A1,ofOpt,A9,Bv,By,Bg,Cn,B9,Nat.reduceLT,Nat.reduceAdd,Nat.reduceEqDiff,Aa,Ab,Ac,Ae,Af,Ag,Ah,Ai,Al,Am,Es,Tryz.f104,wZ,fa33_1x,l3,e0,bld33,q1,Mb,nn31,Dl]
   refine ⟨_,rfl,⟨?_,h.lt⟩,⟨Nat.le_refl _,fun id _ hn=>Ek hn⟩,rfl⟩
   rw [show Jq true at' err f=(at',err) from by unfold Jq; rw [if_pos ⟨rfl,hf⟩]]
   exact Ef _ _ _
  ·have e0:((f.2:Int) == 0)=false:=by rw [beq_eq_false_iff_ne]; omega
   simp only [Bp,A6,Bk,Bn,A4,Bf,A7,Be,Bc,Cf,A5,Ba,A8,Cd,A0,A1,ofOpt,A9,Bv,By,Bg,Cn,B9,Nat.reduceLT,Nat.reduceAdd,Nat.reduceEqDiff,Aa,Ab,Ac,Ae,Af,Ag,Ah,Ai,Al,Am,Es,Tryz.f104,wZ,fa33_1x,l3,e0,Mb,nn31,Dl]
   exact ⟨_,rfl,by rw [show Jq true at' err f=f from by unfold Jq; rw [if_neg (fun h=>hf h.2)]]; exact h,⟨Nat.le_refl _,fun _ _ _=>rfl⟩,rfl⟩
section
variable {α:Type} (f:α → AV)
def Iy (l:List (List UInt8 × α)):List (Value × AV):=l.map fun p=>(Value.string ⟨⟨p.1⟩⟩,f p.2)
def Qy:List (List UInt8 × α) → List UInt8 → Option α
 | [],_=>none
 | (n,x) :: r,k=>if k=n then some x else Qy r k
def Rt:List (List UInt8 × α) → List UInt8 → α → List (List UInt8 × α)
 | [],k,x=>[(k,x)]
 | (n,y) :: r,k,x=>if k=n then (n,x) :: r else (n,y) :: Rt r k x
theorem Ud:∀ (l:List (List UInt8 × α)) (k:List UInt8) (x:α) (k':List UInt8),Qy (Rt l k x) k' = if k' = k then some x else Qy l k'
 | [],k,x,k'=>rfl
 | (n,y) :: r,k,x,k'=>by
  unfold Rt
  by_cases h:k=n
  ·rw [if_pos h]
   subst h
   unfold Qy
   by_cases h2:k' = k
   ·rw [if_pos h2,if_pos h2]
   ·rw [if_neg h2,if_neg h2,if_neg h2]
  ·rw [if_neg h]
   unfold Qy
   by_cases h2:k' = n
   ·subst h2
    rw [if_pos rfl,if_neg (fun e=>h e.symm),if_pos rfl]
   ·rw [if_neg h2,Ud r k x k',if_neg h2]
def oW (T E:TypeId):Prop:=∃ d,mapT Tryz.prog T=some (9,d,E) ∧ ∀ x y:List UInt8,Instr.sameNow d (.string ⟨⟨x⟩⟩) (.string ⟨⟨y⟩⟩)=some (decide (x=y))
theorem qI {T E:TypeId} (h:(match mapT Tryz.prog T with | some (9,.string,e)=>Nat.beq e E | _=>false)=true):oW T E:=by
 split at h
 ·rename_i e hk
  have:=Nat.eq_of_beq_eq_true h
  subst this
  refine ⟨_,hk,fun x y=>?_⟩
  simp only [Instr.sameNow,Aa]
  by_cases e:x=y
  ·subst e; simp [Jn]
  ·rw [decide_eq_false e]
   cases hb:((⟨⟨x⟩⟩:ByteArray) == ⟨⟨y⟩⟩) with
   | false=>simp [hb]
   | true=>exact absurd (congrArg (fun b:ByteArray=>b.data.toList) (eO hb)) e
 ·cases h
theorem Zi {d:TypeDesc} (hs:∀ x y:List UInt8,Instr.sameNow d (.string ⟨⟨x⟩⟩) (.string ⟨⟨y⟩⟩)=some (decide (x=y))) (k:List UInt8):∀ (l:List (List UInt8 × α)) (i:Nat),(Qy l k=none ∧ Q6 d (.string ⟨⟨k⟩⟩) (Iy f l) i=some none ∧ ∀ y,Rt l k y=l ++ [(k,y)]) ∨ ∃ j x,Qy l k=some x ∧ Q6 d (.string ⟨⟨k⟩⟩) (Iy f l) i=some (some (i + j,f x)) ∧ ∀ y,Rt l k y=l.set j (k,y)
 | [],i=>.inl ⟨rfl,rfl,fun _=>rfl⟩
 | (n,x) :: r,i=>by
  by_cases hk:k=n
  ·refine .inr ⟨0,x,by unfold Qy; rw [if_pos hk],?_,fun y=>by unfold Rt; rw [if_pos hk,hk]; rfl⟩
   unfold Iy Q6
   simp only [List.map_cons,hs,decide_eq_true hk]
   rfl
  ·rcases Zi hs k r (i + 1) with ⟨h1,h2,h3⟩ | ⟨j,z,h1,h2,h3⟩
   ·refine .inl ⟨by unfold Qy; rw [if_neg hk]; exact h1,?_,fun y=>by unfold Rt; rw [if_neg hk,h3 y]; rfl⟩
    unfold Iy Q6
    simp only [List.map_cons,hs,decide_eq_false hk]
    exact h2
   ·refine .inr ⟨j + 1,z,by unfold Qy; rw [if_neg hk]; exact h1,?_,fun y=>by unfold Rt; rw [if_neg hk,h3 y]; rfl⟩
    unfold Iy Q6
    simp only [List.map_cons,hs,decide_eq_false hk]
    rw [show i + (j + 1)=i + 1 + j by omega]
    exact h2
theorem mD {T E:TypeId} (hT:oW T E) {z:AV} (hz:L3 Tryz.prog E=some z) {S:St} {m:Nat} {l:List (List UInt8 × α)} (hm:S.mem.get m=some (.mp (Iy f l))) (k:List UInt8):Ij Tryz.prog S T (.map m) (.v (.string ⟨⟨k⟩⟩)) false=some (match Qy l k with | some x=>f x | none=>z):=by
 obtain ⟨d,hd,hs⟩:=hT
 have ht:Vt 8 (.v (.string ⟨⟨k⟩⟩))=some (.string ⟨⟨k⟩⟩):=rfl
 simp only [Ij,bQ,hd,hm,ht]
 rcases Zi f hs k l 0 with ⟨h1,h2,_⟩ | ⟨j,x,h1,h2,_⟩
 ·rw [h1,h2]; simp only [hz]; rfl
 ·rw [h1,h2]; rfl
theorem qD {T E:TypeId} (hT:oW T E) {S:St} {m:Nat} {l:List (List UInt8 × α)} (hm:S.mem.get m=some (.mp (Iy f l))) (k:List UInt8) (x:α):Fx Tryz.prog S T (.map m) (.v (.string ⟨⟨k⟩⟩)) (f x)=some { S with mem:=S.mem.set m (some (.mp (Iy f (Rt l k x)))) }:=by
 obtain ⟨d,hd,hs⟩:=hT
 have ht:Vt 8 (.v (.string ⟨⟨k⟩⟩))=some (.string ⟨⟨k⟩⟩):=rfl
 simp only [Fx,hd,hm,ht]
 rcases Zi f hs k l 0 with ⟨h1,h2,h3⟩ | ⟨j,y,h1,h2,h3⟩
 ·rw [h2,h3 x]; simp [Iy]
 ·rw [h2,h3 x]; simp [Iy,List.map_set]
end
theorem key123:oW 123 52:=qI (by kernel_rfl)
theorem key121:oW 121 49:=qI (by kernel_rfl)
def tyA (t:Bool × Bool):AV:=.agg [.v (.bool t.1),.v (.bool t.2)]
theorem zero52:L3 Tryz.prog 52=some (tyA (false,false)):=by kernel_rfl
theorem Sj {S:St} {m:Nat} {l:List (List UInt8 × (Bool × Bool))} (hm:S.mem.get m=some (.mp (Iy tyA l))) (k:List UInt8):Ij Tryz.prog S 123 (.map m) (.v (.string ⟨⟨k⟩⟩)) false=some (tyA ((Qy l k).getD (false,false))):=by
 rw [mD tyA key123 zero52 hm k]
 cases Qy l k <;> rfl
theorem Sn:∃ fn,E9.F 104=some fn:=Option.isSome_iff_exists.1 (by kernel_rfl)
theorem fng_105:∃ fn,E9.F 105=some fn:=Option.isSome_iff_exists.1 (by kernel_rfl)
theorem fne52 (a b c d:Bool):La Tryz.prog .neq 52 (tyA (a,b)) (tyA (c,d))=some (.v (.bool (!((a == c) && (b == d))))):=by cases a <;> cases b <;> cases c <;> cases d <;> kernel_rfl
theorem ne52 (f:T AV) (S:St) (o:Oper) (a b c d:Bool):L1 Tryz.prog G7 f S o .neq 52 (tyA (a,b)) (tyA (c,d))=.val (.v (.bool (!((a == c) && (b == d))))) S:=by
 unfold L1
 rw [fne52]
theorem nn52 (a b:AV):Hz Tryz.prog 52 a b=false:=by
 have u52:(match Tryz.prog.underlying 52 with | some (.struct _)=>true | _=>false)=true:=by kernel_rfl
 unfold Hz
 split at u52
 ·rename_i h; rw [h]
 ·cases u52
theorem fb52 (op:BinOp) (x y:Bool × Bool):Ei op (tyA x) (tyA y)=none:=rfl
theorem Ze (S:St) (p k:Nat):Ci Tryz.prog S 123 (.ptr p k)=W9 (S.mem.get p) k:=fV (by kernel_rfl) S p k
theorem ldc121 (S:St) (p k:Nat):Ci Tryz.prog S 121 (.ptr p k)=W9 (S.mem.get p) k:=fV (by kernel_rfl) S p k
theorem bl52t:Gn Tryz.prog 52 [(0,.v (.bool true))]=some (tyA (true,false)):=by kernel_rfl
def H6 (l:List (List UInt8 × (Bool × Bool))) (k:List UInt8):Bool × Bool:=(Qy l k).getD (false,false)
theorem fng_69:∃ fn,E9.F 69=some fn:=Option.isSome_iff_exists.1 (by kernel_rfl)
theorem fa54_0 (b:Nat):C2 Tryz.prog 54 (.ptr b 0) 0=some (.ptr b 0):=by kernel_rfl
theorem fa54_1 (b:Nat):C2 Tryz.prog 54 (.ptr b 0) 1=some (.ptr b 1):=by kernel_rfl
theorem dW (b:Nat):C2 Tryz.prog 54 (.ptr b 0) 2=some (.ptr b 2):=by kernel_rfl
theorem fa54_3 (b:Nat):C2 Tryz.prog 54 (.ptr b 0) 3=some (.ptr b 4):=by kernel_rfl
theorem bL (b:Nat):C2 Tryz.prog 52 (.ptr b 2) 1=some (.ptr b 3):=by kernel_rfl
theorem iT (b:Nat):C2 Tryz.prog 52 (.ptr b 2) 0=some (.ptr b 2):=by kernel_rfl
theorem ld54ep (S:St) (d:PD):Ci Tryz.prog S 54 (.ep (Fh d))=some (.agg (Fh d)):=by
 simp [Ci,Dv,ag54,gT,Fh]
theorem declC3 (d:PD):(Fh d)[3]? = some (.v (.bool d.fut)):=_root_.id rfl
theorem declC1 (d:PD):(Fh d)[1]? = some (.v (.int .i64 (d.pos:Int))):=_root_.id rfl
def Mt:List PD → Nat × Nat → Nat × Nat
 | [],f=>f
 | d :: l,f=>Mt l (Jq d.fut d.pos 7 f)
def lT:Code:=match Tryz.f69.body with
 | some (.seq _ (.block _ (.loop b)))=>b
 | _=>.skip
theorem Sight.keep {S S':St} {s:Nat} {mn mm:AV} {f:Nat × Nat} (h:Sight S s mn mm f) (k:En S S'):Sight S' s mn mm f:=⟨(k.2 s h.lt).trans h.box,Nat.lt_of_lt_of_le h.lt k.1⟩
def LoopNf (S0:St) (s:Nat) (mn mm:AV) (f:Nat × Nat) (r:O):Prop:=∃ t' S',r=.out (.exit 0) ⟨t',[]⟩ S' ∧ Sight S' s mn mm f ∧ Eb s S0 S'
theorem nf_lp {s:Nat} {mn mm:AV} {tok off:Nat} (ds:List PD) (hl:ds.length ≤ 1000000) (S0:St) (hs0:s < S0.next):∀ (m j:Nat) (f:Nat × Nat) (t:T AV) (S:St),j + m=ds.length → t.get 0=some (.ptr s 0) → t.get 6=some (.sl tok off 6 (ds.map F4)) → t.get 7=some (Dl ds.length) → t.get 8=some (Dl j) → Sight S s mn mm f → Eb s S0 S →
  WX E9 20 (.loop lT) ⟨t,[]⟩ S (LoopNf S0 s mn mm (Mt (ds.drop j) f))
 | 0,j,f,t,S,hj,h0,h6,h7,h8,hg,hk=>by
  refine D2 (Ds ?_)
  have hlt:¬ ((j:Int) < (ds.length:Int)):=by omega
  simp only [Dl] at h7 h8
  simp only [Bz,Bp,A6,Bk,Bn,Bt,C9,A4,Ct,Bf,A7,Be,Bc,Cf,A5,Ba,A8,A0,ofOpt,Bu,C3,Nat.reduceLT,Nat.reduceEqDiff,Aa,Ab,Ac,Am,Aq,Es,lT,Tryz.f69,h7,h8,hlt]
  rw [List.drop_of_length_le (by omega)]
  exact ⟨_,_,rfl,hg,hk⟩
 | m + 1,j,f,t,S,hj,h0,h6,h7,h8,hg,hk=>by
  refine D2 (Ds ?_)
  obtain ⟨fn1,hf104⟩:=Sn
  have hjl:j < ds.length:=by omega
  have hlt:((j:Int) < (ds.length:Int)):=by omega
  have hw:IntKind.i64.wrap ((j:Int) + 1)=((j + 1:Nat):Int):=by rw [IntKind.wrap_i64]; omega
  have hx:=idx46d tok off ds j hjl
  rw [List.drop_eq_getElem_cons hjl]
  generalize ds[j]=d at hx
  have hep:=ld54ep S d
  have g1:=Cu S Oh
  have k1:=Cz S Oh
  have q1:=qK g1 rfl d
  have k2:En S ((S.newBox Oh).put S.next (Fh d)):=Eo k1 (Nat.le_refl _) _
  have g2:=Ef (S.newBox Oh) S.next (Fh d)
  generalize hS2:(S.newBox Oh).put S.next (Fh d)=S2 at q1 k2 g2
  have hg2:=hg.keep k2
  simp only [Dl] at h7 h8
  simp only [Bz,Bp,A6,Bk,Bn,Bt,C9,A4,Ct,Bf,A7,Be,De,B3,Dr,Bc,Ce,A5,Ba,A8,A0,Bo,B5,ofOpt,ofOptS,A9,Bu,C3,Nat.reduceLT,Nat.reduceEqDiff,Aa,Ab,Ac,Aj,Ak,Am,Ap,Es,lT,Tryz.f69,h0,h6,h7,h8,hlt,hx,hep,Yr,q1,fa54_1,dW,bL,Rb,pN,Gv,g2,declC1,declC3,hf104]
  refine WC.mono (Uu hg2 d.fut d.pos 7) ?_
  rintro _ ⟨S3,rfl,hg3,k3,n3⟩
  simp only [Bw,A6,A4,Br,Bf,A7,Be,Bc,Co,A5,Ba,A8,A0,ofOpt,A9,Bu,Dd,Nat.reduceLT,Nat.reduceEqDiff,Aa,Ab,Ac,Am,Es,h8,hw]
  refine nf_lp (tok:=tok) (off:=off) ds hl S0 hs0 m (j + 1) _ _ S3 (by omega) ?_ ?_ ?_ ?_ hg3 ((hk.trans (k2.x s)).trans k3)
  ·simp only [A0,Nat.reduceEqDiff,Ab,h0]
  ·simp only [A0,Nat.reduceEqDiff,Ab,h6]
  ·simp only [A0,Nat.reduceEqDiff,Ab,h7]; rfl
  ·simp only [A0,Nat.reduceEqDiff,Aa]; rfl
theorem noFut_w {S:St} {s:Nat} {mn mm v:AV} {f:Nat × Nat} {ds:List PD} (h:Sight S s mn mm f) (hv:Hq 6 F4 v ds) (hl:ds.length ≤ 1000000):WC E9 69 [.ptr s 0,v] S (fun r=>∃ S',r=.ret (.tup []) S' ∧ Sight S' s mn mm (Mt ds f) ∧ Eb s S S'):=by
 refine Dt Tryz.f69 (by kernel_rfl) (by kernel_rfl) (by kernel_rfl) (by show (_:Nat) ≤ _;simp [Tryz.f69]) ?_
 rcases hv with ⟨rfl,rfl⟩ | ⟨tok,off,rfl⟩
 ·have hlen:F6 Tryz.prog S 46 .nils=some 0:=by simp [F6,un46]
  simp only [A6,Bk,Bt,D0,A4,Bf,A7,Be,Bc,A5,Ba,A8,Cd,A0,A1,Bo,ofOpt,A9,Nat.reduceLT,Nat.reduceAdd,Nat.reduceEqDiff,Aa,Ab,Ac,Ae,Es,Tryz.f69,hlen]
  refine D2 (Ds ?_)
  have hlt:¬ ((0:Int) < ((0:Nat):Int)):=by omega
  simp only [Bz,Bp,A6,Bk,Bn,Bt,C9,A4,Ct,Dy,Bf,A7,Be,Bc,Cf,A5,Ba,A8,A0,A1,ofOpt,Bu,By,Bg,Cn,C3,Nat.reduceLT,Nat.reduceEqDiff,Aa,Ab,Ac,Am,Aq,Es,hlt,Mb]
  exact ⟨_,rfl,h,⟨Nat.le_refl _,fun _ _ _=>rfl⟩⟩
 ·have key:=fun t h0 h6 h7 h8=>nf_lp (s:=s) (mn:=mn) (mm:=mm) (tok:=tok) (off:=off) ds hl S h.lt ds.length 0 f t S (by omega) h0 h6 h7 h8 h ⟨Nat.le_refl _,fun _ _ _=>rfl⟩
  unfold lT at key
  simp only [Tryz.f69] at key
  have hlen:F6 Tryz.prog S 46 (.sl tok off 6 (ds.map F4))=some ds.length:=by simp [F6,un46]
  simp only [A6,Bk,Bt,D0,A4,Bf,A7,Be,Bc,A5,Ba,A8,Cd,A0,A1,Bo,ofOpt,A9,Nat.reduceLT,Nat.reduceAdd,Nat.reduceEqDiff,Aa,Ab,Ac,Ae,Es,Tryz.f69,hlen]
  refine WX.mono (key _ ?_ ?_ ?_ ?_) ?_
  ·simp only [A0,A1,Nat.reduceEqDiff,Aa,Ab]
  ·simp only [A0,A1,Nat.reduceEqDiff,Aa,Ab]
  ·simp only [A0,A1,Nat.reduceEqDiff,Aa,Ab]; rfl
  ·simp only [A0,A1,Nat.reduceEqDiff,Aa,Ab]; rfl
  rintro o ⟨t',S',rfl,hg,hk⟩
  simp only [Dy,By,Bg,Cn,Aa,Mb]
  exact ⟨S',rfl,hg,hk⟩
theorem wL:∃ fn,E9.F 163=some fn:=Option.isSome_iff_exists.1 (by kernel_rfl)
theorem fng_192:∃ fn,E9.F 192=some fn:=Option.isSome_iff_exists.1 (by kernel_rfl)
theorem fng_206:∃ fn,E9.F 206=some fn:=Option.isSome_iff_exists.1 (by kernel_rfl)
structure NdM where
 g:Nat
 l:List (List UInt8 × AV)
structure Cx (s m:Nat) (mn:NdM) (names:List (List UInt8 × (Bool × Bool))) (S:St) (f:Nat × Nat):Prop where
 g:Sight S s (.map mn.g) (.map m) f
 mp:S.mem.get m=some (.mp (Iy tyA names))
 lt:m < S.next ∧ m ≠ s
 nd:S.mem.get mn.g=some (.mp (Iy id mn.l))
 ndlt:mn.g < S.next ∧ mn.g ≠ s
theorem Cx.keep {s m:Nat} {mn:NdM} {names:List (List UInt8 × (Bool × Bool))} {S S':St} {f:Nat × Nat} (h:Cx s m mn names S f) (k:En S S'):Cx s m mn names S' f:=⟨h.g.keep k,(k.2 m h.lt.1).trans h.mp,⟨Nat.lt_of_lt_of_le h.lt.1 k.1,h.lt.2⟩,(k.2 mn.g h.ndlt.1).trans h.nd,⟨Nat.lt_of_lt_of_le h.ndlt.1 k.1,h.ndlt.2⟩⟩
theorem Cx.x {s m:Nat} {mn:NdM} {names:List (List UInt8 × (Bool × Bool))} {S S':St} {f f':Nat × Nat} (h:Cx s m mn names S f) (k:Eb s S S') (hg:Sight S' s (.map mn.g) (.map m) f'):Cx s m mn names S' f':=⟨hg,(k.2 m h.lt.1 h.lt.2).trans h.mp,⟨Nat.lt_of_lt_of_le h.lt.1 k.1,h.lt.2⟩,(k.2 mn.g h.ndlt.1 h.ndlt.2).trans h.nd,⟨Nat.lt_of_lt_of_le h.ndlt.1 k.1,h.ndlt.2⟩⟩
def gS (s m:Nat) (mn:NdM) (names:List (List UInt8 × (Bool × Bool))) (Ty:PE → Nat × Nat → (Bool × Bool) × (Nat × Nat)) (e:PE):Prop:=∀ (xs:List AV) (S:St) (f:Nat × Nat),RepE (.agg xs) e → Cx s m mn names S f → WC E9 163 [.ptr s 0,.agg xs] S (fun r=>∃ S',r=.ret (tyA (Ty e f).1) S' ∧ Cx s m mn names S' (Ty e f).2 ∧ Eb s S S')
theorem Q4 {S:St} {id:Nat} {t:Bool × Bool} (h:S.mem.get id=some (.box [.v (.bool t.1),.v (.bool t.2)])):Ci Tryz.prog S 52 (.ptr id 0)=some (tyA t):=by
 simp [Ci,Dv,h,ag52,yK,tyA]
def tyC (t:Bool × Bool):List AV:=[.v (.bool t.1),.v (.bool t.2)]
theorem Uq (S:St):Jt Tryz.prog S 52=some (.ptr S.next 0,S.newBox (tyC (false,false))):=by kernel_rfl
theorem Z4 {S:St} {id:Nat} {t:Bool × Bool} (h:S.mem.get id=some (.box (tyC t))) (u:Bool × Bool):Dk Tryz.prog S 52 (.ptr id 0) (tyA u)=some (S.put id (tyC u)):=by
 simp [Dk,h,yK,AV.noTup,AV.cells,tyA,tyC,St.put]
theorem bl52e:Gn Tryz.prog 52 []=some (tyA (false,false)):=by kernel_rfl
def uJ (s m:Nat) (mn:NdM) (names:List (List UInt8 × (Bool × Bool))) (e:PE) (res:Nat × Nat → (Bool × Bool) × (Nat × Nat)):Prop:=∀ (xs:List AV) (S:St) (f:Nat × Nat),RepE (.agg xs) e → Cx s m mn names S f → WC E9 163 [.ptr s 0,.agg xs] S (fun r=>∃ S',r=.ret (tyA (res f).1) S' ∧ Cx s m mn names S' (res f).2 ∧ Eb s S S')
theorem Cx.own {s m:Nat} {mn:NdM} {names:List (List UInt8 × (Bool × Bool))} {S S3:St} {f f':Nat × Nat} {b:Nat} {cs:List AV} (h0:Cx s m mn names S f) (h:Cx s m mn names S3 f') (hb:S.next ≤ b) (kk:Eb s S S3):Cx s m mn names (S3.put b cs) f' ∧ Eb s S (S3.put b cs):=by
 have h1:=h0.lt
 have h2:=h0.g.lt
 have h3:=h0.ndlt
 exact ⟨⟨⟨(Ek (by omega)).trans h.g.box,h.g.lt⟩,(Ek (by omega)).trans h.mp,h.lt,(Ek (by omega)).trans h.nd,h.ndlt⟩,⟨kk.1,fun id hid hn=>(Ek (by omega)).trans (kk.2 id hid hn)⟩⟩
theorem expr_num {s m:Nat} {mn:NdM} {names:List (List UInt8 × (Bool × Bool))} (pos:Nat) (n:Int) (name:List UInt8) (off:Bool) (kids:List PE):uJ s m mn names (.mk 1 pos n name off kids) (fun f=>((false,false),f)):=by
 intro xs S f hr hc
 cases hr with
 | mk _ _ _ _ _ kv _ hkv =>
 refine Dt Tryz.f163 (by kernel_rfl) (by kernel_rfl) (by kernel_rfl) (by show (_:Nat) ≤ _;simp [Tryz.f163]) ?_
 have g1:=Cu S (exC 1 pos n name off kv)
 have k1:=Cz S (exC 1 pos n name off kv)
 have n1:(S.newBox (exC 1 pos n name off kv)).next=S.next + 1:=rfl
 generalize hS1:S.newBox (exC 1 pos n name off kv)=S1 at g1 k1 n1
 have al:=Uq S1
 have g2:=Cu S1 (tyC (false,false))
 have q2:(S1.newBox (tyC (false,false))).mem.get S.next=_:=(Fp (by omega)).trans g1
 have k2:=k1.trans (Cz S1 (tyC (false,false)))
 have n2:(S1.newBox (tyC (false,false))).next=S.next + 1 + 1:=by show S1.next + 1=_; omega
 generalize hS2:S1.newBox (tyC (false,false))=S2 at g2 q2 k2 n2 al
 have hc2:=hc.keep k2
 have l3:Ci Tryz.prog S2 3 (.ptr S.next 0)=some (.v (.int .i64 ((1:Nat):Int))):=Ja q2
 have l30:Ci Tryz.prog S2 30 (.ptr S.next 0)=some (.agg (exC 1 pos n name off kv)):=ld30 q2 rfl
 have e2:(((1:Nat):Int) == 2)=false:=rfl
 have e3:(((1:Nat):Int) == 3)=false:=rfl
 have e4:(((1:Nat):Int) == 4)=false:=rfl
 have e5:(((1:Nat):Int) == 5)=false:=rfl
 have e6:(((1:Nat):Int) == 6)=false:=rfl
 have e7:(((1:Nat):Int) == 7)=false:=rfl
 have e8:(((1:Nat):Int) == 8)=false:=rfl
 have e9:(((1:Nat):Int) == 9)=false:=rfl
 have e10:(((1:Nat):Int) == 10)=false:=rfl
 have e11:(((1:Nat):Int) == 11)=false:=rfl
 have e12:(((1:Nat):Int) == 12)=false:=rfl
 have e13:(((1:Nat):Int) == 13)=false:=rfl
 have e14:(((1:Nat):Int) == 14)=false:=rfl
 have q4:=Z4 g2 (false,false)
 obtain ⟨c4,k4⟩:=Cx.own (cs:=tyC (false,false)) hc hc2 (by omega:S.next ≤ S1.next) (k2.x s)
 have l4:=Q4 (t:=(false,false)) (Ef S2 S1.next (tyC (false,false)))
 simp only [Bp,A6,Cm,Bk,Bn,Bt,B0,A4,Br,Bf,A7,Be,De,Dr,Bc,Cf,A5,Ba,A8,Cd,A0,A1,ofOpt,ofOptS,A9,Bv,Bu,Bj,By,Bg,Cn,B9,Nat.reduceLT,Nat.reduceAdd,Nat.reduceEqDiff,Aa,Ab,Ac,Ae,Am,Es,Tryz.f163,Ca,Cb,hS1,al,l3,fe0,bl52e,bl52t,q4,l4,e2,e3,e4,e5,e6,e7,e8,e9,e10,e11,e12,e13,e14]
 exact ⟨_,rfl,c4,k4⟩
theorem expr_bool {s m:Nat} {mn:NdM} {names:List (List UInt8 × (Bool × Bool))} (pos:Nat) (n:Int) (name:List UInt8) (off:Bool) (kids:List PE):uJ s m mn names (.mk 2 pos n name off kids) (fun f=>((true,false),f)):=by
 intro xs S f hr hc
 cases hr with
 | mk _ _ _ _ _ kv _ hkv =>
 refine Dt Tryz.f163 (by kernel_rfl) (by kernel_rfl) (by kernel_rfl) (by show (_:Nat) ≤ _;simp [Tryz.f163]) ?_
 have g1:=Cu S (exC 2 pos n name off kv)
 have k1:=Cz S (exC 2 pos n name off kv)
 have n1:(S.newBox (exC 2 pos n name off kv)).next=S.next + 1:=rfl
 generalize hS1:S.newBox (exC 2 pos n name off kv)=S1 at g1 k1 n1
 have al:=Uq S1
 have g2:=Cu S1 (tyC (false,false))
 have q2:(S1.newBox (tyC (false,false))).mem.get S.next=_:=(Fp (by omega)).trans g1
 have k2:=k1.trans (Cz S1 (tyC (false,false)))
 have n2:(S1.newBox (tyC (false,false))).next=S.next + 1 + 1:=by show S1.next + 1=_; omega
 generalize hS2:S1.newBox (tyC (false,false))=S2 at g2 q2 k2 n2 al
 have hc2:=hc.keep k2
 have l3:Ci Tryz.prog S2 3 (.ptr S.next 0)=some (.v (.int .i64 ((2:Nat):Int))):=Ja q2
 have l30:Ci Tryz.prog S2 30 (.ptr S.next 0)=some (.agg (exC 2 pos n name off kv)):=ld30 q2 rfl
 have e2:(((2:Nat):Int) == 2)=true:=rfl
 have e3:(((2:Nat):Int) == 3)=false:=rfl
 have e4:(((2:Nat):Int) == 4)=false:=rfl
 have e5:(((2:Nat):Int) == 5)=false:=rfl
 have e6:(((2:Nat):Int) == 6)=false:=rfl
 have e7:(((2:Nat):Int) == 7)=false:=rfl
 have e8:(((2:Nat):Int) == 8)=false:=rfl
 have e9:(((2:Nat):Int) == 9)=false:=rfl
 have e10:(((2:Nat):Int) == 10)=false:=rfl
 have e11:(((2:Nat):Int) == 11)=false:=rfl
 have e12:(((2:Nat):Int) == 12)=false:=rfl
 have e13:(((2:Nat):Int) == 13)=false:=rfl
 have e14:(((2:Nat):Int) == 14)=false:=rfl
 have q4:=Z4 g2 (true,false)
 obtain ⟨c4,k4⟩:=Cx.own (cs:=tyC (true,false)) hc hc2 (by omega:S.next ≤ S1.next) (k2.x s)
 have l4:=Q4 (t:=(true,false)) (Ef S2 S1.next (tyC (true,false)))
 simp only [Bp,A6,Cm,Bk,Bn,Bt,B0,A4,B4,Br,B1,Bf,A7,Be,De,Dr,Bc,Ce,Cf,A5,Ba,A8,Cd,A0,A1,ofOpt,ofOptS,A9,Bv,Bu,Bj,By,Bg,Cn,B9,Nat.reduceLT,Nat.reduceAdd,Nat.reduceEqDiff,Aa,Ab,Ac,Ae,Am,Es,Tryz.f163,Ca,Cb,hS1,al,l3,fe0,bl52e,bl52t,q4,l4,e2,e3,e4,e5,e6,e7,e8,e9,e10,e11,e12,e13,e14]
 exact ⟨_,rfl,c4,k4⟩
theorem beqA_map (m:Nat):Gc (.map m) (.map m)=true:=beq_self_eq_true m
theorem cJ (t:Bool × Bool):Gc (tyA t) (tyA t)=true:=by obtain ⟨a,b⟩:=t; cases a <;> cases b <;> rfl
def CallA (g s m:Nat) (mn:NdM) (names:List (List UInt8 × (Bool × Bool))) (xs:List AV) (res:Nat × Nat → (Bool × Bool) × (Nat × Nat)):Prop:=∀ (S:St) (f:Nat × Nat),Cx s m mn names S f → WC E9 g [.ptr s 0,.agg xs] S (fun r=>∃ S',r=.ret (tyA (res f).1) S' ∧ Cx s m mn names S' (res f).2 ∧ Eb s S S')
theorem expr_call {s m:Nat} {mn:NdM} {names:List (List UInt8 × (Bool × Bool))} (pos:Nat) (n:Int) (name:List UInt8) (off:Bool) (kids:List PE) (res:Nat × Nat → (Bool × Bool) × (Nat × Nat)) (ha:∀ xs,RepE (.agg xs) (.mk 13 pos n name off kids) → CallA 192 s m mn names xs res):uJ s m mn names (.mk 13 pos n name off kids) res:=by
 intro xs S f hr hc
 cases hr with
 | mk _ _ _ _ _ kv _ hkv =>
 refine Dt Tryz.f163 (by kernel_rfl) (by kernel_rfl) (by kernel_rfl) (by show (_:Nat) ≤ _;simp [Tryz.f163]) ?_
 have g1:=Cu S (exC 13 pos n name off kv)
 have k1:=Cz S (exC 13 pos n name off kv)
 have n1:(S.newBox (exC 13 pos n name off kv)).next=S.next + 1:=rfl
 generalize hS1:S.newBox (exC 13 pos n name off kv)=S1 at g1 k1 n1
 have al:=Uq S1
 have g2:=Cu S1 (tyC (false,false))
 have q2:(S1.newBox (tyC (false,false))).mem.get S.next=_:=(Fp (by omega)).trans g1
 have k2:=k1.trans (Cz S1 (tyC (false,false)))
 have n2:(S1.newBox (tyC (false,false))).next=S.next + 1 + 1:=by show S1.next + 1=_; omega
 generalize hS2:S1.newBox (tyC (false,false))=S2 at g2 q2 k2 n2 al
 have hc2:=hc.keep k2
 have l3:Ci Tryz.prog S2 3 (.ptr S.next 0)=some (.v (.int .i64 ((13:Nat):Int))):=Ja q2
 have l30:Ci Tryz.prog S2 30 (.ptr S.next 0)=some (.agg (exC 13 pos n name off kv)):=ld30 q2 rfl
 have e2:(((13:Nat):Int) == 2)=false:=rfl
 have e3:(((13:Nat):Int) == 3)=false:=rfl
 have e4:(((13:Nat):Int) == 4)=false:=rfl
 have e5:(((13:Nat):Int) == 5)=false:=rfl
 have e6:(((13:Nat):Int) == 6)=false:=rfl
 have e7:(((13:Nat):Int) == 7)=false:=rfl
 have e8:(((13:Nat):Int) == 8)=false:=rfl
 have e9:(((13:Nat):Int) == 9)=false:=rfl
 have e10:(((13:Nat):Int) == 10)=false:=rfl
 have e11:(((13:Nat):Int) == 11)=false:=rfl
 have e12:(((13:Nat):Int) == 12)=false:=rfl
 have e13:(((13:Nat):Int) == 13)=true:=rfl
 have e14:(((13:Nat):Int) == 14)=false:=rfl
 obtain ⟨fn1,hfg⟩:=fng_192
 simp only [Bp,A6,Cm,Bk,Bn,Bt,A4,Br,Bf,A7,Be,B3,Bc,Ce,Cf,A5,Ba,A8,Cd,A0,A1,Bo,B5,ofOpt,ofOptS,A9,Bv,Bu,B9,Nat.reduceLT,Nat.reduceAdd,Nat.reduceEqDiff,Aa,Ab,Ac,Ae,Aj,Ak,Am,Es,Tryz.f163,Ca,Cb,hS1,al,l3,l30,fe0,hfg,e2,e3,e4,e5,e6,e7,e8,e9,e10,e11,e12,e13,e14]
 refine WC.mono (ha _ (.mk _ _ _ _ _ _ _ hkv) S2 f hc2) ?_
 rintro _ ⟨S3,rfl,c3,k3⟩
 have hlt:=hc.g.lt
 have g3:S3.mem.get S1.next=some (.box (tyC (false,false))):=(k3.2 S1.next (by omega) (by omega)).trans g2
 have q4:=Z4 g3 (res f).1
 obtain ⟨c4,k4⟩:=Cx.own (cs:=tyC (res f).1) hc c3 (by omega:S.next ≤ S1.next) ((k2.x s).trans k3)
 have l4:=Q4 (t:=(res f).1) (Ef S3 S1.next (tyC (res f).1))
 simp only [B0,A4,B4,B1,Bf,A7,De,Dr,Bc,Co,A5,Ba,A8,A0,A1,Bj,By,Bg,Cn,Nat.reduceLT,Nat.reduceEqDiff,Aa,Ab,Ac,Es,q4,l4]
 exact ⟨_,rfl,c4,k4⟩
theorem fld52 (t:Bool × Bool):Ou Tryz.prog 52 (tyA t) 1=some (.v (.bool t.2)):=by kernel_rfl
theorem expr_var {s m:Nat} {mn:NdM} {names:List (List UInt8 × (Bool × Bool))} (pos:Nat) (n:Int) (name:List UInt8) (off:Bool) (kids:List PE):uJ s m mn names (.mk 3 pos n name off kids) (fun f=>(H6 names name,Jq (H6 names name).2 pos 7 f)):=by
 intro xs S f hr hc
 cases hr with
 | mk _ _ _ _ _ kv _ hkv =>
 refine Dt Tryz.f163 (by kernel_rfl) (by kernel_rfl) (by kernel_rfl) (by show (_:Nat) ≤ _;simp [Tryz.f163]) ?_
 have g1:=Cu S (exC 3 pos n name off kv)
 have k1:=Cz S (exC 3 pos n name off kv)
 have n1:(S.newBox (exC 3 pos n name off kv)).next=S.next + 1:=rfl
 generalize hS1:S.newBox (exC 3 pos n name off kv)=S1 at g1 k1 n1
 have al:=Uq S1
 have g2:=Cu S1 (tyC (false,false))
 have q2:(S1.newBox (tyC (false,false))).mem.get S.next=_:=(Fp (by omega)).trans g1
 have k2:=k1.trans (Cz S1 (tyC (false,false)))
 have n2:(S1.newBox (tyC (false,false))).next=S.next + 1 + 1:=by show S1.next + 1=_; omega
 generalize hS2:S1.newBox (tyC (false,false))=S2 at g2 q2 k2 n2 al
 have hc2:=hc.keep k2
 have l3:Ci Tryz.prog S2 3 (.ptr S.next 0)=some (.v (.int .i64 ((3:Nat):Int))):=Ja q2
 have l30:Ci Tryz.prog S2 30 (.ptr S.next 0)=some (.agg (exC 3 pos n name off kv)):=ld30 q2 rfl
 have e2:(((3:Nat):Int) == 2)=false:=rfl
 have e3:(((3:Nat):Int) == 3)=true:=rfl
 have e4:(((3:Nat):Int) == 4)=false:=rfl
 have e5:(((3:Nat):Int) == 5)=false:=rfl
 have e6:(((3:Nat):Int) == 6)=false:=rfl
 have e7:(((3:Nat):Int) == 7)=false:=rfl
 have e8:(((3:Nat):Int) == 8)=false:=rfl
 have e9:(((3:Nat):Int) == 9)=false:=rfl
 have e10:(((3:Nat):Int) == 10)=false:=rfl
 have e11:(((3:Nat):Int) == 11)=false:=rfl
 have e12:(((3:Nat):Int) == 12)=false:=rfl
 have e13:(((3:Nat):Int) == 13)=false:=rfl
 have e14:(((3:Nat):Int) == 14)=false:=rfl
 obtain ⟨fn1,hf104⟩:=Sn
 have hlt:=hc.g.lt
 have lm:Ci Tryz.prog S2 123 (.ptr s 1)=some (.map m):=by rw [Ze,hc2.g.box]; rfl
 have ln:Ci Tryz.prog S2 9 (.ptr S.next 3)=some (.v (.string ⟨⟨name⟩⟩)):=by rw [dP,q2]; rfl
 have lk:Ij Tryz.prog S2 123 (.map m) (.v (.string ⟨⟨name⟩⟩)) false=some (tyA (H6 names name)):=Sj hc2.mp name
 have lp:Ci Tryz.prog S2 3 (.ptr S.next 1)=some (.v (.int .i64 (pos:Int))):=by rw [Rb,q2]; rfl
 simp only [Bp,A6,Cm,Bk,Bn,Bt,A4,Br,Bf,A7,Be,Bc,Ce,Cf,A5,Ba,A8,Cd,A0,A1,ofOpt,ofOptS,A9,Bv,Bu,B9,Nat.reduceLT,Nat.reduceAdd,Nat.reduceEqDiff,Aa,Ab,Ac,Ae,Am,Es,Tryz.f163,Ca,Cb,hS1,al,l3,fe0,e2,e3,e4,e5,e6,e7,e8,e9,e10,e11,e12,e13,e14]
 refine Fz [(0,true),(1,true),(2,true),(3,true),(4,true),(5,true),(6,true),(7,true),(8,true),(9,true),(10,true),(11,true)] (by kernel_rfl) (by kernel_rfl) ?_
 simp only [A5,Ba,A8,A0,A1,Bo,B5,ofOpt,A9,Nat.reduceLT,Nat.reduceEqDiff,Aa,Ab,Ac,Af,Ag,Ah,Aj,Ak,Es,Sp,fe3,fe1,lm,ln,lk,lp,fld52,hf104,Dq,Cs,Df,Cj,F9]
 refine WC.mono (Uu hc2.g (H6 names name).2 pos 7) ?_
 rintro _ ⟨S3,rfl,hg3,k3,n3⟩
 have c3:=hc2.x k3 hg3
 have g3:S3.mem.get S1.next=some (.box (tyC (false,false))):=(k3.2 S1.next (by omega) (by omega)).trans g2
 have p3:S3.mem.get S.next=_:=(k3.2 S.next (by omega) (by omega)).trans q2
 have lm3:Ci Tryz.prog S3 123 (.ptr s 1)=some (.map m):=by rw [Ze,c3.g.box]; rfl
 have ln3:Ci Tryz.prog S3 9 (.ptr S.next 3)=some (.v (.string ⟨⟨name⟩⟩)):=by rw [dP,p3]; rfl
 have lk3:Ij Tryz.prog S3 123 (.map m) (.v (.string ⟨⟨name⟩⟩)) false=some (tyA (H6 names name)):=Sj c3.mp name
 have q4:=Z4 g3 (H6 names name)
 obtain ⟨c4,k4⟩:=Cx.own (cs:=tyC (H6 names name)) hc c3 (by omega:S.next ≤ S1.next) ((k2.x s).trans k3)
 have l4:=Q4 (t:=H6 names name) (Ef S3 S1.next (tyC (H6 names name)))
 simp only [Cm,Bk,A4,Nat.reduceLT,Ac,Eg,Cj,Dz,Dm]
 refine Fz [(0,true),(1,true),(2,true),(3,true),(4,true),(5,true),(6,true),(7,true)] (by kernel_rfl) (by kernel_rfl) ?_
 simp only [B0,A4,B4,B1,A5,Ba,A8,A0,A1,ofOpt,Bj,By,Bg,Cn,Nat.reduceLT,Nat.reduceEqDiff,Aa,Ab,Ac,Af,Ag,Ah,Es,Sp,fe3,lm3,ln3,lk3,q4,l4,Eg,Dq,Cs,Qr,Ql,Cj,Dm,F9]
 exact ⟨_,rfl,c4,k4⟩
theorem handed_w {s m:Nat} {mn:NdM} {names:List (List UInt8 × (Bool × Bool))} (pos:Nat) (n:Int) (name:List UInt8) (off:Bool) (kids:List PE) (xs:List AV) (hx:RepE (.agg xs) (.mk 3 pos n name off kids)) (ty:Bool × Bool) (S:St) (f:Nat × Nat) (hc:Cx s m mn names S f):WC E9 206 [.ptr s 0,.agg xs,tyA ty] S (fun r=>∃ S',r=.ret (.tup []) S' ∧ Cx s m mn names S' (Jq (!(((H6 names name).1 == ty.1) && ((H6 names name).2 == ty.2))) pos 7 f) ∧ Eb s S S'):=by
 cases hx with
 | mk _ _ _ _ _ kv _ hkv =>
 refine Dt Tryz.f206 (by kernel_rfl) (by kernel_rfl) (by kernel_rfl) (by show (_:Nat) ≤ _;simp [Tryz.f206]) ?_
 obtain ⟨fn1,hf104⟩:=Sn
 have g1:=Cu S (exC 3 pos n name off kv)
 have k1:=Cz S (exC 3 pos n name off kv)
 have n1:(S.newBox (exC 3 pos n name off kv)).next=S.next + 1:=rfl
 generalize hS1:S.newBox (exC 3 pos n name off kv)=S1 at g1 k1 n1
 have etA:tyA ty=.agg [.v (.bool ty.1),.v (.bool ty.2)]:=rfl
 have e1:S1.newBox [.v (.bool ty.1),.v (.bool ty.2)]=S1.newBox (tyC ty):=rfl
 have g2:=Cu S1 (tyC ty)
 have q2:(S1.newBox (tyC ty)).mem.get S.next=_:=(Fp (by omega)).trans g1
 have k2:=k1.trans (Cz S1 (tyC ty))
 generalize hS2:S1.newBox (tyC ty)=S2 at g2 q2 k2 e1
 have hc2:=hc.keep k2
 have l3:Ci Tryz.prog S2 3 (.ptr S.next 0)=some (.v (.int .i64 ((3:Nat):Int))):=Ja q2
 have lm:Ci Tryz.prog S2 123 (.ptr s 1)=some (.map m):=by rw [Ze,hc2.g.box]; rfl
 have ln:Ci Tryz.prog S2 9 (.ptr S.next 3)=some (.v (.string ⟨⟨name⟩⟩)):=by rw [dP,q2]; rfl
 have lk:Ij Tryz.prog S2 123 (.map m) (.v (.string ⟨⟨name⟩⟩)) false=some (tyA (H6 names name)):=Sj hc2.mp name
 have lp:Ci Tryz.prog S2 3 (.ptr S.next 1)=some (.v (.int .i64 (pos:Int))):=by rw [Rb,q2]; rfl
 have lt:Ci Tryz.prog S2 52 (.ptr S1.next 0)=some (tyA ty):=Q4 g2
 have nq:=fun f' S' o'=>ne52 f' S' o' (H6 names name).1 (H6 names name).2 ty.1 ty.2
 have ety:tyA (H6 names name)=tyA ((H6 names name).1,(H6 names name).2):=rfl
 have ety2:tyA ty=tyA (ty.1,ty.2):=rfl
 have e3:(((3:Nat):Int) == 3)=true:=rfl
 have ag:(AV.agg [.v (.bool ty.1),.v (.bool ty.2)]:AV)=tyA (ty.1,ty.2):=rfl
 rw [etA]
 simp only [Bp,A6,Cm,Bk,Bn,A4,Bf,A7,Be,Bc,Ce,A5,Ba,A8,Cd,A0,A1,ofOpt,A9,Bu,B9,Nat.reduceLT,Nat.reduceAdd,Nat.reduceEqDiff,Aa,Ab,Ac,Ae,Am,Es,Tryz.f206,Ca,Cb,hS1,e1,l3,fe0,e3]
 refine Fz [(0,true),(1,true),(2,true),(3,true),(4,true),(5,true),(6,true),(7,true),(8,true),(9,true),(10,true),(11,true),(12,true)] (by kernel_rfl) (by kernel_rfl) ?_
 rw [ety] at lk
 rw [ety2] at lt
 simp only [A5,Ba,A8,A0,A1,Bo,B5,ofOpt,A9,Nat.reduceLT,Nat.reduceEqDiff,Aa,Ab,Ac,Af,Ag,Ah,Aj,Ak,Am,Es,Lr,Sp,fe3,fe1,lm,ln,lk,lp,lt,nn52,fb52,nq,hf104,Dq,Cs,Df,Cj,F9]
 refine WC.mono (Uu hc2.g _ pos 7) ?_
 rintro _ ⟨S3,rfl,hg3,k3,n3⟩
 simp only [B0,A4,B4,Bj,By,Bg,Cn,Nat.reduceLT,Ac,Eg,Cj,Dz,Dm]
 exact ⟨_,rfl,hc2.x k3 hg3,(k2.x s).trans k3⟩
theorem minZ_eq (F:Operand → Value) (dst:Option Tmp) (k l:Tmp) (ty:TypeId) (pos:String) (af:Array Edge) (gd:Option (Nat × Bool)):execOp F { dst:=dst,op:=.call { callee:=.builtin .min,args:=#[.tmp k,.tmp l],argTypes:=#[3,3] },type:=ty,pos:=pos,after:=af,guard:=gd }=execOp (dM (F (.tmp k)) (F (.tmp l))) { dst:=none,op:=.call { callee:=.builtin .min,args:=#[.tmp 0,.tmp 1],argTypes:=#[3,3] },type:=ty,pos := "", after:=#[],guard:=none }:=by kernel_rfl
theorem minZ_val (a b:Int) (ty:TypeId):Q3 Tryz.prog 4000 (execOp (dM (.int .i64 a) (.int .i64 b)) { dst:=none,op:=.call { callee:=.builtin .min,args:=#[.tmp 0,.tmp 1],argTypes:=#[3,3] },type:=ty,pos := "", after:=#[],guard:=none })=some (.int .i64 (if b < a then b else a)):=by kernel_rfl
def minZX (P:Program) (G:Gl) (f:T AV) (S:St) (o:Oper):OR:=ground P G f S o
def minZO (r:OR) (S:St) (x y:Option AV):OR:=match x,y with
 | some (.v (.int .i64 a)),some (.v (.int .i64 b))=>.val (.v (.int .i64 (if b < a then b else a))) S
 | _,_=>r
theorem minZO_ii (r:OR) (S:St) (a b:Int):minZO r S (some (.v (.int .i64 a))) (some (.v (.int .i64 b)))=.val (.v (.int .i64 (if b < a then b else a))) S:=rfl
theorem gB (f:T AV) (S:St) (dst:Option Tmp) (k l:Tmp) (ty:TypeId) (pos:String) (af:Array Edge) (gd:Option (Nat × Bool)) :
  ground Tryz.prog G7 f S { dst:=dst,op:=.call { callee:=.builtin .min,args:=#[.tmp k,.tmp l],argTypes:=#[3,3] },type:=ty,pos:=pos,after:=af,guard:=gd }=minZO (minZX Tryz.prog G7 f S { dst:=dst,op:=.call { callee:=.builtin .min,args:=#[.tmp k,.tmp l],argTypes:=#[3,3] },type:=ty,pos:=pos,after:=af,guard:=gd }) S (f.get k) (f.get l):=by
 unfold minZO
 split
 ·rename_i a b h1 h2
  have hg1:Dc G7 f (.tmp k)=some (.int .i64 a):=by unfold Dc; simp only [A8,h1]; rfl
  have hg2:Dc G7 f (.tmp l)=some (.int .i64 b):=by unfold Dc; simp only [A8,h2]; rfl
  unfold ground
  have hall:((Op.call { callee:=.builtin .min,args:=#[.tmp k,.tmp l],argTypes:=#[3,3] }:Op).operands.toList.all fun x=>(Dc G7 f x).isSome)=true:=by
   show ([Operand.tmp k,Operand.tmp l].all fun x=>(Dc G7 f x).isSome)=true
   simp only [List.all_cons,List.all_nil,hg1,hg2,Option.isSome_some,Bool.and_self]
  refine (if_pos hall).trans ?_
  rw [minZ_eq]
  have e1:(Dc G7 f (.tmp k)).getD undef=.int .i64 a:=by rw [hg1]; rfl
  have e2:(Dc G7 f (.tmp l)).getD undef=.int .i64 b:=by rw [hg2]; rfl
  simp only [e1,e2,minZ_val]
  rfl
 ·rfl
theorem min_len (a b:Nat):(if (b:Int) < (a:Int) then (b:Int) else (a:Int))=((min a b:Nat):Int):=by
 by_cases h:b < a
 ·rw [if_pos (by omega)]; omega
 ·rw [if_neg (by omega)]; omega
theorem fa49_0 (b:Nat):C2 Tryz.prog 49 (.ptr b 0) 0=some (.ptr b 0):=by kernel_rfl
def declR (d:PD):List AV:=[.v (.bool d.bool),.v (.bool d.fut),Bq d.clock,.v (.bool d.off)]
theorem fa54e (d:PD):C2 Tryz.prog 54 (.ep (Fh d)) 2=some (.ep (declR d)):=by kernel_rfl
theorem ld52e (S:St) (d:PD):Ci Tryz.prog S 52 (.ep (declR d))=some (tyA (d.bool,d.fut)):=by
 simp [Ci,Dv,ag52,yK,declR,tyA]
theorem Zc (S:St) {v:AV} {ds:List PD} (h:Hq 6 F4 v ds):F6 Tryz.prog S 46 v=some ds.length:=by
 rcases h with ⟨rfl,rfl⟩ | ⟨tok,off,rfl⟩ <;> simp [F6,un46]
theorem ix46r {v:AV} {ds:List PD} (h:Hq 6 F4 v ds) (j:Nat) (hj:j < ds.length):Cl Tryz.prog 46 v (.v (.int .i64 (j:Int)))=some (.ep (Fh ds[j])):=by
 rcases h with ⟨rfl,rfl⟩ | ⟨tok,off,rfl⟩
 ·cases hj
 ·exact idx46d tok off ds j hj
theorem ix28r {v:AV} {l:List PE} (h:RepK v l) (j:Nat) (hj:j < l.length):∃ ys,Cl Tryz.prog 28 v (.v (.int .i64 (j:Int)))=some (.ep ys) ∧ RepE (.agg ys) l[j] ∧ ys.length=6:=by
 cases h with
 | nil=>cases hj
 | row tok off es _ hf =>
  obtain ⟨ys,hy,hr⟩:=Tu hf j hj
  refine ⟨ys,idx28x tok off es j ys hy,hr,?_⟩
  revert hr; generalize l[j]=e; intro hr
  cases hr; rfl
theorem nX:∀ ds:List PD,Na (ds.map F4) (ds.map F4)=true
 | []=>rfl
 | d :: l=>by
  have h:=nX l
  simp only [List.map_cons,Na,h,Bool.and_true]
  simp [F4,Fh,Gc,Na,Dl,Bq,eqS,Jn]
theorem Ws {v:AV} {ds:List PD} (h:Hq 6 F4 v ds):Gc v v=true:=by
 rcases h with ⟨rfl,_⟩ | ⟨tok,off,rfl⟩
 ·rfl
 ·simp [Gc,nX]
theorem rN {v:AV} {nd:PN} (h:Jb v nd):Gc v v=true:=by
 obtain ⟨a,b,c,d,es,rfl,ha,hb,hc,hd,he⟩:=h
 have ra:=Ws ha
 have rb:=Ws hb
 have rc:=Ws hc
 have rd:Gc d d=true:=by
  rcases hd with ⟨rfl,_⟩ | ⟨tok,rfl⟩
  ·rfl
  ·simp [Gc,EqRows.refl he]
 simp [Gg,Gc,Na,Dl,Bq,eqS,Jn,ra,rb,rc,rd]
theorem st49 {S:St} {id:Nat} {cs ys:List AV} (h:S.mem.get id=some (.box cs)) (hl:cs.length=6) (hy:ys.length=6):Dk Tryz.prog S 49 (.ptr id 0) (.agg ys)=some (S.put id ys):=by
 simp [Dk,h,hl,hy,Uw,AV.noTup,AV.cells,St.put,List.drop_eq_nil_of_le]
theorem vV {S:St} {g:Nat} {l:List (List UInt8 × AV)} (hm:S.mem.get g=some (.mp (Iy id l))) {k:List UInt8} {v:AV} (hk:Qy l k=some v):Ij Tryz.prog S 121 (.map g) (.v (.string ⟨⟨k⟩⟩)) false=some v:=by
 rw [mD id key121 zr49 hm k,hk]
 rfl
def nmE:PE → List UInt8
 | .mk _ _ _ name _ _=>name
def wG (e:PE):Prop:=∃ pos n nm off ks,e=.mk 3 pos n nm off ks
def Sk (names:List (List UInt8 × (Bool × Bool))):List PE → List PD → Nat × Nat → Nat × Nat
 | e :: l,d :: r,f=>Sk names l r (Jq (!(((H6 names (nmE e)).1 == d.bool) && ((H6 names (nmE e)).2 == d.fut))) (aE e) 7 f)
 | [],_,f=>f
 | _,[],f=>f
theorem handF_nil (names:List (List UInt8 × (Bool × Bool))) (l:List PE) (r:List PD) (f:Nat × Nat) (h:l=[] ∨ r=[]):Sk names l r f=f:=by
 cases l <;> cases r <;> first | rfl | (rcases h with h | h <;> cases h)
def aJ:List PD → Bool × Bool
 | []=>(false,false)
 | d :: _=>(d.bool,d.fut)
def oM:Code:=match Tryz.f192.body with
 | some (.seq _ (.seq _ (.seq (.seq _ (.block _ (.loop b))) _)))=>b
 | _=>.skip
def LoopCa (s m:Nat) (mn:NdM) (names:List (List UInt8 × (Bool × Bool))) (S0:St) (q o:Nat) (f:Nat × Nat) (r:O):Prop:=∃ t' S',r=.out (.exit 0) ⟨t',[]⟩ S' ∧ t'.get 4=some (.ptr o 0) ∧ t'.get 5=some (.ptr q 0) ∧ Cx s m mn names S' f ∧ Eb s S0 S'
theorem ca_lp {s m:Nat} {mn:NdM} {names:List (List UInt8 × (Bool × Bool))} {kv a bb c d:AV} {nm:List UInt8} {ps kind pos:Nat} {n0:Int} {name:List UInt8} {off:Bool} (kids:List PE) (hkv:RepK kv kids) (hvar:∀ e ∈ kids,wG e) (ins:List PD) (ha:Hq 6 F4 a ins) (hl:kids.length ≤ 1000000) (p q o:Nat) (S0:St) (hs0:s < S0.next) (hp:p < S0.next ∧ p ≠ s) (hpm:S0.mem.get p=some (.box (exC kind pos n0 name off kv))) (hq:q < S0.next ∧ q ≠ s) (hqm:S0.mem.get q=some (.box (Gg nm ps a bb c d))):∀ (n j:Nat) (f:Nat × Nat) (t:T AV) (S:St),j + n=min kids.length ins.length → t.get 0=some (.ptr s 0) → t.get 3=some (.ptr p 0) → t.get 4=some (.ptr o 0) → t.get 5=some (.ptr q 0) → t.get 20=some (Dl (min kids.length ins.length)) → t.get 21=some (Dl j) → Cx s m mn names S f → Eb s S0 S →
  WX E9 48 (.loop oM) ⟨t,[]⟩ S (LoopCa s m mn names S0 q o (Sk names (kids.drop j) (ins.drop j) f))
 | 0,j,f,t,S,hj,h0,h3,h4,h5,h20,h21,hc,hk=>by
  refine D2 (Ds ?_)
  have hlt:¬ ((j:Int) < ((min kids.length ins.length:Nat):Int)):=by omega
  simp only [Dl] at h20 h21
  simp only [Bz,Bp,A6,Cm,Bk,Bn,Bt,C9,A4,Ct,Bf,A7,Be,Bc,Cf,A5,Ba,A8,A0,ofOpt,Bu,C3,Nat.reduceLT,Nat.reduceEqDiff,Aa,Ab,Ac,Am,Aq,Es,oM,Tryz.f192,h20,h21,hlt]
  rw [handF_nil names _ _ f (by
   rcases Nat.le_total kids.length ins.length with h | h
   ·exact .inl (List.drop_of_length_le (by omega))
   ·exact .inr (List.drop_of_length_le (by omega)))]
  exact ⟨_,_,rfl,by simp only [A0,A1,Nat.reduceEqDiff,Aa,Ab,h4],by simp only [A0,A1,Nat.reduceEqDiff,Aa,Ab,h5],hc,hk⟩
 | n + 1,j,f,t,S,hj,h0,h3,h4,h5,h20,h21,hc,hk=>by
  refine D2 (Ds ?_)
  obtain ⟨fn2,hf206⟩:=fng_206
  have hjk:j < kids.length:=by omega
  have hji:j < ins.length:=by omega
  have hlt:((j:Int) < ((min kids.length ins.length:Nat):Int)):=by omega
  have hw:IntKind.i64.wrap ((j:Int) + 1)=((j + 1:Nat):Int):=by rw [IntKind.wrap_i64]; omega
  obtain ⟨ys,hx,hre,hyl⟩:=ix28r hkv j hjk
  have hi:=ix46r ha j hji
  have hva:=hvar _ (List.getElem_mem hjk)
  rw [List.drop_eq_getElem_cons hjk,List.drop_eq_getElem_cons hji]
  generalize kids[j]=e at hre hva
  generalize ins[j]=dd at hi
  obtain ⟨vp,vn,vnm,vo,vk,rfl⟩:=hva
  have gp:S.mem.get p=_:=(hk.2 p hp.1 hp.2).trans hpm
  have gq:S.mem.get q=_:=(hk.2 q hq.1 hq.2).trans hqm
  have lk:=lx28 gp
  have li:Ci Tryz.prog S 46 (.ptr q 2)=some a:=wB gq
  have hep:=wC S hyl
  have fd:=fa54e dd
  have lt:=ld52e S dd
  have rr:Gc (.agg ys) (.agg ys)=true:=RepE.refl hre
  have rt:=cJ (dd.bool,dd.fut)
  simp only [Dl] at h20 h21
  simp only [Bz,Bp,A6,Cm,Bk,Bn,Bt,C9,A4,Ct,Bf,A7,Be,Bc,Ce,A5,Ba,A8,A0,ofOpt,Bu,C3,Nat.reduceLT,Nat.reduceEqDiff,Aa,Ab,Ac,Am,Ap,Es,oM,Tryz.f192,h20,h21,hlt]
  refine Fz [(0,true),(1,true),(2,true),(3,true),(4,true),(5,true),(6,true),(7,true),(8,true),(9,true),(10,true),(11,true),(12,true)] (by kernel_rfl) (by kernel_rfl) ?_
  simp only [A5,Ba,A8,A0,Bo,B5,ofOpt,Nat.reduceLT,Nat.reduceEqDiff,Aa,Ab,Ac,Af,Ag,Ah,Aj,Ak,Es,h0,h3,h5,fe5,lk,hx,hep,nC,li,hi,fd,lt,hf206,Dq,Cs,Df,Cj,F9]
  refine WC.mono (handed_w vp vn vnm vo vk ys hre (dd.bool,dd.fut) S f hc) ?_
  rintro _ ⟨S4,rfl,hc4,k4⟩
  simp only [Bw,A6,A4,Br,Bf,A7,Be,Bc,A5,Ba,A8,A0,ofOpt,A9,Bu,Dd,Nat.reduceLT,Nat.reduceEqDiff,Aa,Ab,Ac,Am,Es,h21,hw,Eg,Cj,Dz,Dm]
  refine ca_lp kids hkv hvar ins ha hl p q o S0 hs0 hp hpm hq hqm n (j + 1) _ _ S4 (by omega) ?_ ?_ ?_ ?_ ?_ ?_ hc4 (hk.trans k4)
  ·simp only [A0,A1,Nat.reduceEqDiff,Aa,Ab,h0]
  ·simp only [A0,A1,Nat.reduceEqDiff,Aa,Ab,h3]
  ·simp only [A0,A1,Nat.reduceEqDiff,Aa,Ab,h4]
  ·simp only [A0,A1,Nat.reduceEqDiff,Aa,Ab,h5]
  ·simp only [A0,A1,Nat.reduceEqDiff,Aa,Ab,h20]; rfl
  ·simp only [A0,A1,Nat.reduceEqDiff,Aa,Ab]; rfl
theorem call_w {s m:Nat} {mn:NdM} {names:List (List UInt8 × (Bool × Bool))} (pos:Nat) (n:Int) (name:List UInt8) (off:Bool) (kids:List PE) (hvar:∀ e ∈ kids,wG e) (hl:kids.length ≤ 1000000) {v:AV} {nd:PN} (hN:Qy mn.l name=some v) (hnd:Jb v nd) (xs:List AV) (hx:RepE (.agg xs) (.mk 13 pos n name off kids)):CallA 192 s m mn names xs (fun f=>(aJ nd.outs,Sk names kids nd.ins f)):=by
 intro S f hc
 have rv:=rN hnd
 obtain ⟨a,bb,c,d,es,rfl,ha,hb,hcv,hd,he⟩:=hnd
 cases hx with
 | mk _ _ _ _ _ kv _ hkv =>
 refine Dt Tryz.f192 (by kernel_rfl) (by kernel_rfl) (by kernel_rfl) (by show (_:Nat) ≤ _;simp [Tryz.f192]) ?_
 have g1:=Cu S (exC 13 pos n name off kv)
 have k1:=Cz S (exC 13 pos n name off kv)
 have n1:(S.newBox (exC 13 pos n name off kv)).next=S.next + 1:=rfl
 generalize hS1:S.newBox (exC 13 pos n name off kv)=S1 at g1 k1 n1
 have al:=Uq S1
 have g2:=Cu S1 (tyC (false,false))
 have q2:(S1.newBox (tyC (false,false))).mem.get S.next=_:=(Fp (by omega)).trans g1
 have k2:=k1.trans (Cz S1 (tyC (false,false)))
 have n2:(S1.newBox (tyC (false,false))).next=S.next + 1 + 1:=by show S1.next + 1=_; omega
 generalize hS2:S1.newBox (tyC (false,false))=S2 at g2 q2 k2 n2 al
 have hc2:=hc.keep k2
 have hlt:=hc.g.lt
 have lm:Ci Tryz.prog S2 121 (.ptr s 0)=some (.map mn.g):=by rw [ldc121,hc2.g.box]; rfl
 have ln:Ci Tryz.prog S2 9 (.ptr S.next 3)=some (.v (.string ⟨⟨name⟩⟩)):=by rw [dP,q2]; rfl
 have lk:Ij Tryz.prog S2 121 (.map mn.g) (.v (.string ⟨⟨name⟩⟩)) false=some (.agg (Gg nd.name nd.pos a bb c d)):=vV hc2.nd hN
 have al2:=alo49 S2
 have a3:=Cu S2 Ti
 have k3:=k2.trans (Cz S2 Ti)
 have p3:(S2.newBox Ti).mem.get S.next=_:=(Fp (by omega)).trans q2
 have o3:(S2.newBox Ti).mem.get S1.next=_:=(Fp (by omega)).trans g2
 have n3:(S2.newBox Ti).next=S.next + 1 + 1 + 1:=by show S2.next + 1=_; omega
 generalize hS3:S2.newBox Ti=S3 at a3 k3 p3 o3 n3 al2
 have hc3:=hc.keep k3
 have lm3:Ci Tryz.prog S3 121 (.ptr s 0)=some (.map mn.g):=by rw [ldc121,hc3.g.box]; rfl
 have ln3:Ci Tryz.prog S3 9 (.ptr S.next 3)=some (.v (.string ⟨⟨name⟩⟩)):=by rw [dP,p3]; rfl
 have lk3:Ij Tryz.prog S3 121 (.map mn.g) (.v (.string ⟨⟨name⟩⟩)) false=some (.agg (Gg nd.name nd.pos a bb c d)):=vV hc3.nd hN
 have q4:=st49 a3 rfl (ys:=Gg nd.name nd.pos a bb c d) rfl
 have a4:=Ef S3 S2.next (Gg nd.name nd.pos a bb c d)
 have k4:En S (S3.put S2.next (Gg nd.name nd.pos a bb c d)):=Eo k3 (by omega) _
 have p4:(S3.put S2.next (Gg nd.name nd.pos a bb c d)).mem.get S.next=_:=(Ek (by omega)).trans p3
 have o4:(S3.put S2.next (Gg nd.name nd.pos a bb c d)).mem.get S1.next=_:=(Ek (by omega)).trans o3
 have n4:(S3.put S2.next (Gg nd.name nd.pos a bb c d)).next=S.next + 1 + 1 + 1:=n3
 generalize hS4:S3.put S2.next (Gg nd.name nd.pos a bb c d)=S4 at q4 a4 k4 p4 o4 n4
 have hc4:=hc.keep k4
 simp only [A6,Cm,Bk,A4,Bf,A7,Be,Bc,A5,Ba,A8,Cd,A0,A1,ofOptS,Nat.reduceLT,Nat.reduceAdd,Nat.reduceEqDiff,Aa,Ab,Ac,Ae,Es,Tryz.f192,Ca,Cb,hS1,al]
 refine Fz [(0,true),(1,true),(2,true),(3,true),(4,true),(5,true),(6,true),(7,true),(6,false),(5,false),(3,false),(8,true)] (by kernel_rfl) (by kernel_rfl) ?_
 simp only [A6,Bk,A4,A7,A5,Ba,A8,A0,A1,ofOpt,ofOptS,Nat.reduceLT,Nat.reduceEqDiff,Aa,Ab,Ac,Af,Ag,Ah,Am,Es,fa125_0,fe3,lm,ln,lk,al2,lm3,ln3,lk3,beqA_map,rv,q4,Eg,Dq,G2,Cs,Qr,Ql,Cj,Dm,F9,D8,Er,He]
 have lk4:=lx28 p4
 have len4:=len28r S4 hkv
 have li4:Ci Tryz.prog S4 46 (.ptr S2.next 2)=some a:=wB a4
 have leni:=Zc S4 ha
 have hmin:=min_len kids.length nd.ins.length
 have key:=fun t=>ca_lp (s:=s) (m:=m) (mn:=mn) (names:=names) kids hkv hvar nd.ins ha hl S.next S2.next S1.next S4 (by omega) ⟨by omega,by omega⟩ p4 ⟨by omega,by omega⟩ a4 (min kids.length nd.ins.length) 0 f t S4 (by omega)
 unfold oM at key
 simp only [Tryz.f192] at key
 simp only [Bt,D0,A4,Bf,A7,Be,Bc,A5,Ba,A8,A0,A1,Bo,ofOpt,A9,Nat.reduceLT,Nat.reduceEqDiff,Aa,Ab,Ac,Es,Lr,fe5,nC,lk4,len4,li4,leni,gB,minZO_ii,hmin]
 refine WX.mono (key _ ?_ ?_ ?_ ?_ ?_ ?_ hc4 ⟨Nat.le_refl _,fun _ _ _=>rfl⟩) ?_
 ·simp only [A0,A1,Nat.reduceEqDiff,Aa,Ab]
 ·simp only [A0,A1,Nat.reduceEqDiff,Aa,Ab]
 ·simp only [A0,A1,Nat.reduceEqDiff,Aa,Ab]
 ·simp only [A0,A1,Nat.reduceEqDiff,Aa,Ab]
 ·simp only [A0,A1,Nat.reduceEqDiff,Aa,Ab]; rfl
 ·simp only [A0,A1,Nat.reduceEqDiff,Aa,Ab]; rfl
 rintro _ ⟨t5,S5,rfl,h54,h55,hc5,x5⟩
 rw [List.drop_zero,List.drop_zero] at hc5
 have k5:=(k4.x s).trans x5
 have a5:S5.mem.get S2.next=_:=(x5.2 S2.next (by omega) (by omega)).trans a4
 have o5:S5.mem.get S1.next=some (.box (tyC (false,false))):=(x5.2 S1.next (by omega) (by omega)).trans o4
 have lo5:Ci Tryz.prog S5 46 (.ptr S2.next 3)=some bb:=ld46_3 a5
 have leno:=Zc S5 hb
 cases ho:nd.outs with
 | nil =>
  rw [ho] at leno
  have e0:((([]:List PD).length:Int) == 0)=true:=rfl
  have q6:=Z4 o5 (false,false)
  obtain ⟨c6,k6⟩:=Cx.own (cs:=tyC (false,false)) hc hc5 (by omega:S.next ≤ S1.next) k5
  have l6:=Q4 (t:=(false,false)) (Ef S5 S1.next (tyC (false,false)))
  simp only [Bp,A6,Bk,Bn,B0,A4,Ct,B4,Dy,Bf,A7,Be,De,Dr,Bc,Ce,A5,Ba,A8,A0,Bo,ofOpt,A9,Bv,Bu,Bj,By,Bg,Cn,B9,Nat.reduceLT,Nat.reduceEqDiff,Aa,Ab,Ac,Am,Es,h54,h55,dX,lo5,leno,e0,bl52e,q6,l6]
  exact ⟨_,rfl,c6,k6⟩
 | cons dd r =>
  have ix:=ix46r hb 0 (by rw [ho]; exact Nat.succ_pos _)
  have e0:((nd.outs.length:Int) == 0)=false:=by rw [beq_eq_false_iff_ne,ho]; simp only [List.length_cons]; omega
  have hg:nd.outs[0]'(by rw [ho]; exact Nat.succ_pos _)=dd:=by simp only [ho,List.getElem_cons_zero]
  rw [hg] at ix
  have ix:Cl Tryz.prog 46 bb (.v (.int .i64 0))=some (.ep (Fh dd)):=ix
  have fd:=fa54e dd
  have lt:=ld52e S5 dd
  have q6:=Z4 o5 (dd.bool,dd.fut)
  obtain ⟨c6,k6⟩:=Cx.own (cs:=tyC (dd.bool,dd.fut)) hc hc5 (by omega:S.next ≤ S1.next) k5
  have l6:=Q4 (t:=(dd.bool,dd.fut)) (Ef S5 S1.next (tyC (dd.bool,dd.fut)))
  simp only [Bp,A6,Bk,Bn,B0,A4,Ct,Dy,Bf,A7,Be,De,Dr,Bc,Cf,A5,Ba,A8,A0,Bo,ofOpt,A9,Bv,Bu,Bj,By,Bg,Cn,B9,Nat.reduceLT,Nat.reduceEqDiff,Aa,Ab,Ac,Am,Es,h54,h55,dX,lo5,leno,e0,ix,fd,lt,q6,l6]
  exact ⟨_,rfl,c6,k6⟩
end Go.Ax
