/- Gc -/
import Derived.Test.YtjgknelmjdallaaGreatDoorTdG24
import Derived.Test.YtjgknelmjdallaaGreatDoorTdG22
set_option linter.unusedVariables false
set_option linter.unusedSimpArgs false
set_option maxHeartbeats 16000000
noncomputable section
namespace Go.Ax
open Go.RowKit Go.Proofs
set_option maxRecDepth 100000
def eqlBO (r:OR) (S:St) (x y:Option AV):OR:=match x,y with
 | some (.v (.bool a)),some (.v (.bool b))=>.val (.v (.bool (a == b))) S
 | _,_=>r
theorem Ma (r:OR) (S:St) (a b:Bool):eqlBO r S (some (.v (.bool a))) (some (.v (.bool b)))=.val (.v (.bool (a == b))) S:=_root_.id rfl
theorem fastEqBe (a b:Bool):Kv Tryz.prog .eql 4 (.v (.bool a)) (.v (.bool b))=none:=by cases a <;> cases b <;> kernel_rfl
theorem Kk (f:T AV) (S:St) (dst:Option Tmp) (k l:Tmp) (ty:TypeId) (pos:String) (af:Array Edge) (gd:Option (Nat × Bool)) (a b:Bool) :
  Mb Tryz.prog G7 f S { dst:=dst,op:=.binOp .eql 4 (.tmp k) (.tmp l) 4,type:=ty,pos:=pos,after:=af,guard:=gd } .eql 4 (.v (.bool a)) (.v (.bool b))=eqlBO (kF Tryz.prog G7 f S { dst:=dst,op:=.binOp .eql 4 (.tmp k) (.tmp l) 4,type:=ty,pos:=pos,after:=af,guard:=gd } .eql 4 (.v (.bool a)) (.v (.bool b))) S (f.get k) (f.get l):=by
 unfold eqlBO
 split
 ·rename_i x y h1 h2
  have hg1:Dp G7 f (.tmp k)=some (.bool x):=by unfold Dp; simp only [Ba,h1]; rfl
  have hg2:Dp G7 f (.tmp l)=some (.bool y):=by unfold Dp; simp only [Ba,h2]; rfl
  unfold Mb
  rw [fastEqBe]
  simp only
  unfold ground
  have hall:((Op.binOp .eql 4 (.tmp k) (.tmp l) 4:Op).operands.toList.all fun x=>(Dp G7 f x).isSome)=true:=by
   show ([Operand.tmp k,Operand.tmp l].all fun x=>(Dp G7 f x).isSome)=true
   simp only [List.all_cons,List.all_nil,hg1,hg2,Option.isSome_some,Bool.and_self]
  refine (if_pos hall).trans ?_
  have e:execOp (fun x=>(Dp G7 f x).getD undef) { dst:=dst,op:=.binOp .eql 4 (.tmp k) (.tmp l) 4,type:=ty,pos:=pos,after:=af,guard:=gd }=execOp (gQ (.bool x) (.bool y)) { dst:=none,op:=.binOp .eql 4 (.tmp 0) (.tmp 1) 4,type:=4,pos := "", after:=#[],guard:=none }:=by
   simp only [execOp,hg1,hg2,Ae]
   rfl
  rw [e]
  cases x <;> cases y <;> rfl
 ·rfl
def Rw (b:Bool):AV:=.v (.bool b)
theorem un71:Tryz.prog.underlying 71=some (.slice 4):=by kernel_rfl
theorem el71:Ir Tryz.prog 71=some (none,4):=by kernel_rfl
theorem sz4b:Fu Tryz.prog 4=some 1:=by kernel_rfl
theorem idx71 (tok off:Nat) (l:List Bool) (j:Nat) (h:j < l.length):Cm Tryz.prog 71 (.sl tok off 1 (l.map Rw)) (.v (.int .i64 (j:Int)))=some (.ep [Rw l[j]]):=by
 simp [Cm,el71,sz4b,List.getElem?_map,List.getElem?_eq_getElem h,Rw,AV.cells]
theorem ld4epz (S:St) (b:Bool):Cd Tryz.prog S 4 (.ep [Rw b])=some (.v (.bool b)):=by
 have:Fo Tryz.prog 4=some false:=by kernel_rfl
 simp [Cd,D0,this,Rw]
def V4 (k a n:Int) (s:ByteArray) (b:Bool) (kv:AV):List AV:=[.v (.int .i64 k),.v (.int .i64 a),.v (.int .i64 n),.v (.string s),.v (.bool b),kv]
mutual
inductive RawE:AV → Prop where
 | mk (k a n:Int) (s:ByteArray) (b:Bool) (kv:AV) (hn:-9223372036854775808 ≤ n ∧ n ≤ 9223372036854775807) (h:RawK kv):RawE (.agg (V4 k a n s b kv))
inductive RawK:AV → Prop where
 | nil:RawK .nils
 | row (tok off:Nat) (es:List AV) (h:∀ e ∈ es,RawE e):RawK (.sl tok off 6 es)
 | emp (a:Addr):RawK (.v (.slice (some a) 0 0))
end
structure SomeE (d:Nat) (e:PE):Prop where
 good:GoodT e
 fit:Fit e
 few:Few e
 size:Hl e ≤ 4 ^ d
 deep:Hw e ≤ d
def W6 (c:Option Cell) (k:Nat):Option AV:=match c with
 | some (.box cs)=>cs[k]?
 | _=>none
theorem dB {t:TypeId} (ha:Fo Tryz.prog t=some false) (S:St) (p k:Nat):Cd Tryz.prog S t (.ptr p k)=W6 (S.mem.get p) k:=by
 unfold Cd D0 W6
 simp only [ha]
 cases h:S.mem.get p with
 | none=>simp only [h]
 | some c =>
  cases c with
  | box cs =>
   simp only [h]
   by_cases hk:k ≤ cs.length
   ·rw [if_pos hk]
    simp only
    cases hd:cs.drop k with
    | nil =>
     have hl:=congrArg List.length hd
     simp at hl
     rw [List.getElem?_eq_none (by omega)]; rfl
    | cons a r =>
     have h0:(cs.drop k)[0]? = some a:=by rw [hd]; rfl
     rw [List.getElem?_drop,Nat.add_zero] at h0
     rw [h0]; rfl
   ·rw [if_neg hk,List.getElem?_eq_none (by omega)]
  | tip m=>simp only [h]
  | mp es=>simp only [h]
theorem Pt (S:St) (p k:Nat):Cd Tryz.prog S 3 (.ptr p k)=W6 (S.mem.get p) k:=dB (by kernel_rfl) S p k
theorem qG (S:St) (p k:Nat):Cd Tryz.prog S 4 (.ptr p k)=W6 (S.mem.get p) k:=dB (by kernel_rfl) S p k
theorem Q3 (S:St) (p k:Nat):Cd Tryz.prog S 9 (.ptr p k)=W6 (S.mem.get p) k:=dB (by kernel_rfl) S p k
theorem yM {t:TypeId} (hs:Fu Tryz.prog t=some 1) (S:St) (p k:Nat) (x:AV) (cs:List AV) (hx:x.one=true) (hm:S.mem.get p=some (.box cs)) (hk:k < cs.length):Dt Tryz.prog S t (.ptr p k) x=some (S.put p (cs.set k x)):=by
 have hn:x.noTup=true:=by cases x <;> first | rfl | cases hx
 have hc:x.cells=[x]:=by cases x <;> first | rfl | cases hx
 unfold Dt
 simp only [hm,hs,hn,hc,List.length_cons,List.length_nil,Nat.zero_add,Al,Bool.true_and]
 rw [if_pos (decide_eq_true (by omega))]
 have:cs.take k ++ [x] ++ cs.drop (k + 1)=cs.set k x:=by
  rw [List.set_eq_take_append_cons_drop,if_pos hk,List.append_assoc]; rfl
 rw [this]; rfl
def W8 (lo:Nat) (S:St) (v:AV) (es:List AV):Prop:=(v=.nils ∧ es=[]) ∨ ∃ k,v=.sl (k + 2) 0 6 es ∧ S.mem.get (k + 2)=some (.tip (es.length * 6)) ∧ k + 2 < S.next ∧ lo ≤ k + 2
end Go.Ax
noncomputable section
namespace Go.Ax
open Go.RowKit Go.Proofs
set_option maxRecDepth 100000
end Go.Ax
noncomputable section
namespace Go.Ax
open Go.RowKit Go.Proofs
set_option maxRecDepth 100000
def J1 (mn mm:AV) (a e:Nat):List AV:=[mn,mm,Dq a,Dq e]
def Hq (wrong:Bool) (at' err:Nat) (f:Nat × Nat):Nat × Nat:=if wrong=true ∧ f.2=0 then (at',err) else f
structure Sight (S:St) (s:Nat) (mn mm:AV) (f:Nat × Nat):Prop where
 box:S.mem.get s=some (.box (J1 mn mm f.1 f.2))
 lt:s < S.next
theorem ldc31 (S:St) (p k:Nat):Cd Tryz.prog S 31 (.ptr p k)=W6 (S.mem.get p) k:=dB (by kernel_rfl) S p k
theorem bld33 (a e:Nat):Gc Tryz.prog 33 [(0,.v (.int .i64 (a:Int))),(1,.v (.int .i64 (e:Int)))]=some (.agg (Ds a e)):=by kernel_rfl
theorem sz33z:Fu Tryz.prog 33=some 2:=by kernel_rfl
section
variable {α:Type} (f:α → AV)
def I0 (l:List (List UInt8 × α)):List (Value × AV):=l.map fun p=>(Value.string ⟨⟨p.1⟩⟩,f p.2)
def Rl:List (List UInt8 × α) → List UInt8 → Option α
 | [],_=>none
 | (n,x) :: r,k=>if k=n then some x else Rl r k
def Rh:List (List UInt8 × α) → List UInt8 → α → List (List UInt8 × α)
 | [],k,x=>[(k,x)]
 | (n,y) :: r,k,x=>if k=n then (n,x) :: r else (n,y) :: Rh r k x
def iX (T E:TypeId):Prop:=∃ d,mapT Tryz.prog T=some (9,d,E) ∧ ∀ x y:List UInt8,Instr.sameNow d (.string ⟨⟨x⟩⟩) (.string ⟨⟨y⟩⟩)=some (decide (x=y))
theorem fP {T E:TypeId} (h:(match mapT Tryz.prog T with | some (9,.string,e)=>Nat.beq e E | _=>false)=true):iX T E:=by
 split at h
 ·rename_i e hk
  have:=Nat.eq_of_beq_eq_true h
  subst this
  refine ⟨_,hk,fun x y=>?_⟩
  simp only [Instr.sameNow,Aa]
  by_cases e:x=y
  ·subst e; simp [Jk]
  ·rw [decide_eq_false e]
   cases hb:((⟨⟨x⟩⟩:ByteArray) == ⟨⟨y⟩⟩) with
   | false=>simp [hb]
   | true=>exact absurd (congrArg (fun b:ByteArray=>b.data.toList) (iT hb)) e
 ·cases h
theorem aS {d:TypeDesc} (hs:∀ x y:List UInt8,Instr.sameNow d (.string ⟨⟨x⟩⟩) (.string ⟨⟨y⟩⟩)=some (decide (x=y))) (k:List UInt8):∀ (l:List (List UInt8 × α)) (i:Nat),(Rl l k=none ∧ Ru d (.string ⟨⟨k⟩⟩) (I0 f l) i=some none ∧ ∀ y,Rh l k y=l ++ [(k,y)]) ∨ ∃ j x,Rl l k=some x ∧ Ru d (.string ⟨⟨k⟩⟩) (I0 f l) i=some (some (i + j,f x)) ∧ ∀ y,Rh l k y=l.set j (k,y)
 | [],i=>.inl ⟨rfl,rfl,fun _=>rfl⟩
 | (n,x) :: r,i=>by
  by_cases hk:k=n
  ·refine .inr ⟨0,x,by unfold Rl; rw [if_pos hk],?_,fun y=>by unfold Rh; rw [if_pos hk,hk]; rfl⟩
   unfold I0 Ru
   simp only [List.map_cons,hs,decide_eq_true hk]
   rfl
  ·rcases aS hs k r (i + 1) with ⟨h1,h2,h3⟩ | ⟨j,z,h1,h2,h3⟩
   ·refine .inl ⟨by unfold Rl; rw [if_neg hk]; exact h1,?_,fun y=>by unfold Rh; rw [if_neg hk,h3 y]; rfl⟩
    unfold I0 Ru
    simp only [List.map_cons,hs,decide_eq_false hk]
    exact h2
   ·refine .inr ⟨j + 1,z,by unfold Rl; rw [if_neg hk]; exact h1,?_,fun y=>by unfold Rh; rw [if_neg hk,h3 y]; rfl⟩
    unfold I0 Ru
    simp only [List.map_cons,hs,decide_eq_false hk]
    rw [show i + (j + 1)=i + 1 + j by omega]
    exact h2
theorem fK {T E:TypeId} (hT:iX T E) {S:St} {m:Nat} {l:List (List UInt8 × α)} (hm:S.mem.get m=some (.mp (I0 f l))) (k:List UInt8) (x:α):F8 Tryz.prog S T (.map m) (.v (.string ⟨⟨k⟩⟩)) (f x)=some { S with mem:=S.mem.set m (some (.mp (I0 f (Rh l k x)))) }:=by
 obtain ⟨d,hd,hs⟩:=hT
 have ht:W2 8 (.v (.string ⟨⟨k⟩⟩))=some (.string ⟨⟨k⟩⟩):=rfl
 simp only [F8,hd,hm,ht]
 rcases aS f hs k l 0 with ⟨h1,h2,h3⟩ | ⟨j,y,h1,h2,h3⟩
 ·rw [h2,h3 x]; simp [I0]
 ·rw [h2,h3 x]; simp [I0,List.map_set]
end
def tyA (t:Bool × Bool):AV:=.agg [.v (.bool t.1),.v (.bool t.2)]
end Go.Ax
noncomputable section
namespace Go.Ax
open Go.RowKit Go.Proofs
set_option maxRecDepth 100000
end Go.Ax
noncomputable section
namespace Go.Ax
open Go.RowKit Go.Proofs
set_option maxRecDepth 100000
theorem fa54_0 (b:Nat):C2 Tryz.prog 54 (.ptr b 0) 0=some (.ptr b 0):=by kernel_rfl
theorem fa54_1 (b:Nat):C2 Tryz.prog 54 (.ptr b 0) 1=some (.ptr b 1):=by kernel_rfl
theorem iC (b:Nat):C2 Tryz.prog 54 (.ptr b 0) 3=some (.ptr b 4):=by kernel_rfl
theorem Sight.keep {S S':St} {s:Nat} {mn mm:AV} {f:Nat × Nat} (h:Sight S s mn mm f) (k:En S S'):Sight S' s mn mm f:=⟨(k.2 s h.lt).trans h.box,Nat.lt_of_lt_of_le h.lt k.1⟩
structure NdM where
 g:Nat
 l:List (List UInt8 × AV)
structure Cx (s m:Nat) (mn:NdM) (names:List (List UInt8 × (Bool × Bool))) (S:St) (f:Nat × Nat):Prop where
 g:Sight S s (.map mn.g) (.map m) f
 mp:S.mem.get m=some (.mp (I0 tyA names))
 lt:m < S.next ∧ m ≠ s
 nd:S.mem.get mn.g=some (.mp (I0 id mn.l))
 ndlt:mn.g < S.next ∧ mn.g ≠ s
theorem Cx.keep {s m:Nat} {mn:NdM} {names:List (List UInt8 × (Bool × Bool))} {S S':St} {f:Nat × Nat} (h:Cx s m mn names S f) (k:En S S'):Cx s m mn names S' f:=⟨h.g.keep k,(k.2 m h.lt.1).trans h.mp,⟨Nat.lt_of_lt_of_le h.lt.1 k.1,h.lt.2⟩,(k.2 mn.g h.ndlt.1).trans h.nd,⟨Nat.lt_of_lt_of_le h.ndlt.1 k.1,h.ndlt.2⟩⟩
theorem Cx.x {s m:Nat} {mn:NdM} {names:List (List UInt8 × (Bool × Bool))} {S S':St} {f f':Nat × Nat} (h:Cx s m mn names S f) (k:D7 s S S') (hg:Sight S' s (.map mn.g) (.map m) f'):Cx s m mn names S' f':=⟨hg,(k.2 m h.lt.1 h.lt.2).trans h.mp,⟨Nat.lt_of_lt_of_le h.lt.1 k.1,h.lt.2⟩,(k.2 mn.g h.ndlt.1 h.ndlt.2).trans h.nd,⟨Nat.lt_of_lt_of_le h.ndlt.1 k.1,h.ndlt.2⟩⟩
end Go.Ax
noncomputable section
namespace Go.Ax
open Go.RowKit Go.Proofs
set_option maxRecDepth 100000
end Go.Ax
noncomputable section
namespace Go.Ax
open Go.RowKit Go.Proofs
set_option maxRecDepth 100000
theorem Cx.own {s m:Nat} {mn:NdM} {names:List (List UInt8 × (Bool × Bool))} {S S3:St} {f f':Nat × Nat} {b:Nat} {cs:List AV} (h0:Cx s m mn names S f) (h:Cx s m mn names S3 f') (hb:S.next ≤ b) (kk:D7 s S S3):Cx s m mn names (S3.put b cs) f' ∧ D7 s S (S3.put b cs):=by
 have h1:=h0.lt
 have h2:=h0.g.lt
 have h3:=h0.ndlt
 exact ⟨⟨⟨(Eg (by omega)).trans h.g.box,h.g.lt⟩,(Eg (by omega)).trans h.mp,h.lt,(Eg (by omega)).trans h.nd,h.ndlt⟩,⟨kk.1,fun id hid hn=>(Eg (by omega)).trans (kk.2 id hid hn)⟩⟩
theorem Q5 (f:T AV) (S:St) (dst:Option Tmp) (k:Tmp) (ty:TypeId) (pos:String) (af:Array Edge) (gd:Option (Nat × Bool)) :
  ground Tryz.prog G7 f S { dst:=dst,op:=.unOp .not 4 (.tmp k),type:=ty,pos:=pos,after:=af,guard:=gd }=notO (groundX Tryz.prog G7 f S { dst:=dst,op:=.unOp .not 4 (.tmp k),type:=ty,pos:=pos,after:=af,guard:=gd }) S (f.get k):=by
 unfold notO
 split
 ·rename_i b h
  have hg:Dp G7 f (.tmp k)=some (.bool b):=by unfold Dp; simp only [Ba,h]; rfl
  unfold ground
  simp only [Op.operands,List.all_cons,List.all_nil,hg,Option.isSome_some,Bool.and_self,Aa]
  have e:execOp (fun x=>(Dp G7 f x).getD undef) { dst:=dst,op:=.unOp .not 4 (.tmp k),type:=ty,pos:=pos,after:=af,guard:=gd }=execOp (fun _=>.bool b) { dst:=dst,op:=.unOp .not 4 (.tmp k),type:=ty,pos:=pos,after:=af,guard:=gd }:=by
   simp only [execOp,hg,Ae]
  rw [e]
  cases b <;> rfl
 ·rfl
end Go.Ax
noncomputable section
namespace Go.Ax
open Go.RowKit Go.Proofs
set_option maxRecDepth 100000
end Go.Ax
noncomputable section
namespace Go.Ax
open Go.RowKit Go.Proofs
set_option maxRecDepth 100000
end Go.Ax
noncomputable section
namespace Go.Ax
open Go.RowKit Go.Proofs
set_option maxRecDepth 100000
end Go.Ax
noncomputable section
namespace Go.Ax
open Go.RowKit Go.Proofs
set_option maxRecDepth 100000
theorem minZ_val (a b:Int) (ty:TypeId):Rr Tryz.prog 4000 (execOp (gQ (.int .i64 a) (.int .i64 b)) { dst:=none,op:=.call { callee:=.builtin .min,args:=#[.tmp 0,.tmp 1],argTypes:=#[3,3] },type:=ty,pos := "", after:=#[],guard:=none })=some (.int .i64 (if b < a then b else a)):=by kernel_rfl
def minZX (P:Program) (G:Gl) (f:T AV) (S:St) (o:Oper):OR:=ground P G f S o
theorem fa49_0 (b:Nat):C2 Tryz.prog 49 (.ptr b 0) 0=some (.ptr b 0):=by kernel_rfl
theorem Rj (S:St) {v:AV} {ds:List PD} (h:F2 6 Fq v ds):Fw Tryz.prog S 46 v=some ds.length:=by
 rcases h with ⟨rfl,rfl⟩ | ⟨tok,off,rfl⟩ <;> simp [Fw,un46]
theorem qK {v:AV} {ds:List PD} (h:F2 6 Fq v ds) (j:Nat) (hj:j < ds.length):Cm Tryz.prog 46 v (.v (.int .i64 (j:Int)))=some (.ep (Eu ds[j])):=by
 rcases h with ⟨rfl,rfl⟩ | ⟨tok,off,rfl⟩
 ·cases hj
 ·exact idx46d tok off ds j hj
theorem ix28r {v:AV} {l:List PE} (h:RepK v l) (j:Nat) (hj:j < l.length):∃ ys,Cm Tryz.prog 28 v (.v (.int .i64 (j:Int)))=some (.ep ys) ∧ RepE (.agg ys) l[j] ∧ ys.length=6:=by
 cases h with
 | nil=>cases hj
 | row tok off es _ hf =>
  obtain ⟨ys,hy,hr⟩:=Ur hf j hj
  refine ⟨ys,idx28x tok off es j ys hy,hr,?_⟩
  revert hr; generalize l[j]=e; intro hr
  cases hr; rfl
def nmE:PE → List UInt8
 | .mk _ _ _ name _ _=>name
def isVarE (e:PE):Prop:=∃ pos n nm off ks,e=.mk 3 pos n nm off ks
theorem idxU {t e n:Nat} (he:Ir Tryz.prog t=some (none,e)) (hs:Fu Tryz.prog e=some n) (tok off:Nat) (es:List AV) (j:Nat) (h:j < es.length):Cm Tryz.prog t (.sl tok off n es) (.v (.int .i64 (j:Int)))=some (.ep es[j].cells):=by
 have h0:(0:Int) ≤ (j:Int):=by omega
 simp [Cm,h0,he,hs,h]
theorem lepU {e n:Nat} (ha:Fo Tryz.prog e=some true) (hs:Fu Tryz.prog e=some n) (S:St) (ys:List AV) (h:ys.length=n):Cd Tryz.prog S e (.ep ys)=some (.agg ys):=by
 have e2:ys.take n=ys:=List.take_of_length_le (by omega)
 simp [Cd,D0,ha,hs,h,e2]
theorem stU {e n:Nat} (hs:Fu Tryz.prog e=some n) {S:St} {id:Nat} {cs ys:List AV} (h:S.mem.get id=some (.box cs)) (hl:cs.length=n) (hy:ys.length=n):Dt Tryz.prog S e (.ptr id 0) (.agg ys)=some (S.put id ys):=by
 have h2:(AV.agg ys).noTup=true:=rfl
 simp [Dt,h,hs,h2,AV.cells,hl,hy,St.put,List.drop_eq_nil_of_le]
theorem ldU {e n:Nat} (ha:Fo Tryz.prog e=some true) (hs:Fu Tryz.prog e=some n) {S:St} {id:Nat} {cs:List AV} (h:S.mem.get id=some (.box cs)) (hl:cs.length=n):Cd Tryz.prog S e (.ptr id 0)=some (.agg cs):=by
 have e2:cs.take n=cs:=List.take_of_length_le (by omega)
 simp [Cd,D0,h,ha,hs,hl,e2]
theorem Jj (S:St) (z ys:List AV):En S ((S.newBox z).put S.next ys) ∧ ((S.newBox z).put S.next ys).mem.get S.next=some (.box ys) ∧ S.next < ((S.newBox z).put S.next ys).next :=
 ⟨Et (Cz S _) (Nat.le_refl _) _,Ed _ _ _,Nat.lt_succ_self _⟩
theorem eu47:Ir Tryz.prog 47=some (none,57):=by kernel_rfl
theorem eu40:Ir Tryz.prog 40=some (none,49):=by kernel_rfl
theorem Tp (S:St) (k:Nat):En S (S.grown 1 k):=⟨Nat.le_succ _,fun id hid=>by
 show (S.mem.set S.next _).get id=_
 rw [T.get_set,if_neg (by omega)]⟩
theorem len55r (S:St) {lv:AV} {l:List (List UInt8 × Nat)} (h:F2 2 Hr lv l):Fw Tryz.prog S 55 lv=some l.length:=by
 rcases h with ⟨rfl,rfl⟩ | ⟨tok,off,rfl⟩ <;> simp [Fw,un55]
theorem ix55r {v:AV} {l:List (List UInt8 × Nat)} (h:F2 2 Hr v l) (j:Nat) (hj:j < l.length):Cm Tryz.prog 55 v (.v (.int .i64 (j:Int)))=some (.ep (Ib l[j])):=by
 rcases h with ⟨rfl,rfl⟩ | ⟨tok,off,rfl⟩
 ·cases hj
 ·exact idx55d tok off l j hj
theorem fq0 (b:Nat):C2 Tryz.prog 57 (.ptr b 0) 0=some (.ptr b 0):=by kernel_rfl
theorem fa59_0 (b:Nat):C2 Tryz.prog 59 (.ptr b 0) 0=some (.ptr b 0):=by kernel_rfl
theorem fa59_1 (b:Nat):C2 Tryz.prog 59 (.ptr b 0) 1=some (.ptr b 1):=by kernel_rfl
theorem rH:∀ {es:List AV} {l:List PQ},EqRows es l → ∀ (i:Nat) (h:i < l.length),∃ cs,es[i]? = some (.agg cs) ∧ cs.length=8 ∧ Zl (.agg cs) l[i]
 | _,_,.nil,i,h=>by cases h
 | _,_,.cons a q r l h1 h2,0,h=>by
  obtain ⟨lv,xs,rfl,a1,a2,a3⟩:=h1
  exact ⟨_,rfl,by simp [eqC,a2],lv,xs,rfl,a1,a2,a3⟩
 | _,_,.cons a q r l h1 h2,i + 1,h=>by
  obtain ⟨cs,a1,a2,a3⟩:=rH h2 i (Nat.lt_of_succ_lt_succ h)
  exact ⟨cs,by simpa using a1,a2,by simpa using a3⟩
theorem ix47r {v:AV} {es:List AV} {l:List PQ} (hv:(v=.nils ∧ es=[]) ∨ ∃ tok,v=.sl tok 0 8 es) (hes:EqRows es l) (j:Nat) (hj:j < l.length):∃ cs,Cm Tryz.prog 47 v (.v (.int .i64 (j:Int)))=some (.ep cs) ∧ cs.length=8 ∧ Zl (.agg cs) l[j]:=by
 obtain ⟨cs,h1,h2,h3⟩:=rH hes j hj
 have hje:j < es.length:=by rw [hes.len]; exact hj
 rcases hv with ⟨rfl,rfl⟩ | ⟨tok,rfl⟩
 ·cases hje
 ·refine ⟨cs,?_,h2,h3⟩
  have hi:=idxU eu47 bN tok 0 es j hje
  rw [List.getElem?_eq_getElem hje] at h1
  injection h1 with h1
  rw [h1] at hi
  exact hi
theorem len47r (S:St) {v:AV} {es:List AV} {l:List PQ} (hv:(v=.nils ∧ es=[]) ∨ ∃ tok,v=.sl tok 0 8 es) (hes:EqRows es l):Fw Tryz.prog S 47 v=some l.length:=by
 rcases hv with ⟨rfl,rfl⟩ | ⟨tok,rfl⟩
 ·cases hes; simp [Fw,un47]
 ·simp [Fw,un47,hes.len]
theorem Wl {v:AV} {nd:PN} (h:Gr v nd):∃ cs,v=.agg cs ∧ cs.length=6 ∧ cs[0]? = some (Bt nd.name):=by
 obtain ⟨a,b,c,d,es,rfl,_⟩:=h
 exact ⟨_,rfl,rfl,rfl⟩
def Ob (S S':St) (g:Nat) (es:List (Value × AV)):Prop:=S'.mem.get g=some (.mp es) ∧ S.next ≤ g ∧ g < S'.next ∧ En S S'
theorem Ob.new {S S':St} {g:Nat} {es:List (Value × AV)} (h:Ob S S' g es) (z ys:List AV):Ob S ((S'.newBox z).put S'.next ys) g es:=by
 obtain ⟨h1,h2,h3,h4⟩:=h
 obtain ⟨k,_,l⟩:=Jj S' z ys
 exact ⟨(k.2 g h3).trans h1,h2,Nat.lt_of_lt_of_le h3 k.1,h4.trans k⟩
theorem Ob.upd {S S':St} {g:Nat} {es es2:List (Value × AV)} (h:Ob S S' g es):Ob S { S' with mem:=S'.mem.set g (some (.mp es2)) } g es2:=by
 obtain ⟨h1,h2,h3,h4⟩:=h
 refine ⟨?_,h2,h3,h4.1,fun id hid=>?_⟩
 ·show (S'.mem.set g _).get g=_
  rw [T.get_set,if_pos rfl]
 ·show (S'.mem.set g _).get id=_
  rw [T.get_set,if_neg (by omega)]
  exact h4.2 id hid
theorem aI (S:St):Ob S (Mx S).2 S.next []:=by
 refine ⟨?_,Nat.le_refl _,Nat.lt_succ_self _,Nat.le_succ _,fun id hid=>?_⟩
 ·show (S.mem.set S.next _).get S.next=_
  rw [T.get_set,if_pos rfl]
 ·show (S.mem.set S.next _).get id=_
  rw [T.get_set,if_neg (by omega)]
theorem pU (S:St):Mx S=(.map S.next,(Mx S).2):=_root_.id rfl
theorem declA_plain (d:PD):(Fq d).plainC=true:=rfl
theorem decls_plain (ds:List PD):(ds.map Fq).all AV.plainC=true:=by
 rw [List.all_eq_true]
 intro a ha
 obtain ⟨d,_,rfl⟩:=List.mem_map.1 ha
 exact declA_plain d
theorem fX {v:AV} {ds:List PD} (h:F2 6 Fq v ds):uP v=some (ds.map Fq):=by
 rcases h with ⟨rfl,rfl⟩ | ⟨tok,off,rfl⟩ <;> rfl
theorem all_is {v:AV} {nd:PN} (h:Gr v nd) (hl:nd.ins.length + nd.outs.length + nd.vars.length ≤ 3000) (S:St):∃ w,lE [v] S=.ret w S ∧ F2 6 Fq w (nd.ins ++ nd.outs ++ nd.vars):=by
 obtain ⟨a,b,c,d,es,rfl,ha,hb,hc,_⟩:=h
 refine ⟨rowW ((nd.ins ++ nd.outs ++ nd.vars).map Fq),?_,?_⟩
 ·have hp:=decls_plain (nd.ins ++ nd.outs ++ nd.vars)
  simp only [List.map_append] at hp ⊢
  unfold lE Fg
  simp only [fX ha,fX hb,fX hc,hp,List.length_map,Nat.ble_eq_true_of_le hl,Bool.and_self]
 ·cases nd.ins ++ nd.outs ++ nd.vars with
  | nil=>exact .inl ⟨rfl,rfl⟩
  | cons d l=>exact .inr ⟨0,0,rfl⟩
def Kq (nd:PN):List PD:=nd.ins ++ nd.outs ++ nd.vars
theorem ag33u:Fo Tryz.prog 33=some true:=by kernel_rfl
structure CkS (s g:Nat) (l:List (List UInt8 × AV)) (S:St) (f:Nat × Nat):Prop where
 box:∃ mm,Sight S s (.map g) mm f
 nd:S.mem.get g=some (.mp (I0 id l))
 lt:g < S.next ∧ g ≠ s
inductive LeafE:PE → Prop where
 | num (pos:Nat) (n:Int) (name:List UInt8) (off:Bool) (kids:List PE):LeafE (.mk 1 pos n name off kids)
 | tru (pos:Nat) (n:Int) (name:List UInt8) (off:Bool) (kids:List PE):LeafE (.mk 2 pos n name off kids)
 | var (pos:Nat) (n:Int) (name:List UInt8) (off:Bool) (kids:List PE):LeafE (.mk 3 pos n name off kids)
inductive SimE (mnl:List (List UInt8 × AV)) (CF:List UInt8 → PN):PE → Prop where
 | leaf (e:PE) (h:LeafE e):SimE mnl CF e
 | less (pos:Nat) (n:Int) (off:Bool) (kids:List PE) (h:∀ e ∈ kids,LeafE e) (hl:kids.length ≤ 1000):SimE mnl CF (.mk 6 pos n [60] off kids)
 | await (pos:Nat) (n:Int) (name:List UInt8) (off:Bool) (kids:List PE) (h:∀ e ∈ kids,LeafE e) (hl:kids.length ≤ 1000):SimE mnl CF (.mk 14 pos n name off kids)
 | call (pos:Nat) (n:Int) (name:List UInt8) (off:Bool) (kids:List PE) (h:∀ e ∈ kids,isVarE e) (hl:kids.length ≤ 1000) (v:AV) (hv:Rl mnl name=some v) (hn:Gr v (CF name)) (dd:PD) (ho:(CF name).outs=[dd]):SimE mnl CF (.mk 13 pos n name off kids)
def SimQ (mnl:List (List UInt8 × AV)) (CF:List UInt8 → PN) (q:PQ):Prop:=(∃ lf,q.left=[lf]) ∧ SimE mnl CF q.e
structure SimN (mnl:List (List UInt8 × AV)) (CF:List UInt8 → PN) (nd:PN):Prop where
 eqs:∀ q ∈ nd.eqs,SimQ mnl CF q
 vars:∀ d ∈ nd.vars,d.clock=[]
 size:nd.ins.length + nd.outs.length + nd.vars.length ≤ 3000
 len:nd.eqs.length ≤ 1000000
def Jx (f:Nat × Nat):Bool:=decide (f.2=0)
theorem Lk (w:Bool) (p e:Nat) (he:0 < e) (f:Nat × Nat):Jx (Hq w p e f)=(Jx f && !w):=by
 obtain ⟨a,c⟩:=f
 unfold Hq Jx
 cases w with
 | false=>simp
 | true =>
  cases c with
  | zero =>
   have:¬ e=0:=by omega
   simp [this]
  | succ n=>simp
def FZ (f:Nat × Nat):Prop:=f.2=0 → f.1=0
theorem FZ.tell {f:Nat × Nat} (h:FZ f) (w:Bool) (p e:Nat) (he:0 < e):FZ (Hq w p e f):=by
 unfold Hq
 split
 ·intro h2; have:e=0:=h2; omega
 ·exact h
theorem fz_test {f:Nat × Nat} (h:FZ f):((((f.1:Int) == 0) && (((f.2:Int) == 0) && true)))=Jx f:=by
 obtain ⟨a,e⟩:=f
 unfold Jx
 cases e with
 | zero =>
  have:a=0:=h rfl
  subst this
  rfl
 | succ n =>
  have e1:(((n + 1:Nat):Int) == 0)=false:=by rw [beq_eq_false_iff_ne]; omega
  show (((a:Int) == 0) && ((((n + 1:Nat):Int) == 0) && true))=decide (n + 1=0)
  rw [e1]
  simp
def Hk (i:Nat):UInt8:=UInt8.ofNat (48 + i)
def Mn (n:List UInt8):PE:=.mk 3 0 0 n false []
theorem Tq (s:List UInt8) (h:(s ∉ La ∧ s ∉ Gb) ∧ s.length ≤ 30) (h2:(match s with | []=>false | c :: r=>G0 c && r.all Es)=true):Gt s:=by
 cases s with
 | nil=>cases h2
 | cons c r =>
  have h2:(G0 c && r.all Es)=true:=h2
  rw [Bool.and_eq_true,List.all_eq_true] at h2
  exact ⟨h.1,⟨c,r,rfl,h2.1,h2.2⟩,h.2⟩
theorem Gk (c:UInt8) (h:c ∈ ([97,98,99,102,103,104,107,117,118,121]:List UInt8)):Gt [c]:=by
 simp only [List.mem_cons,List.not_mem_nil,or_false] at h
 rcases h with rfl | rfl | rfl | rfl | rfl | rfl | rfl | rfl | rfl | rfl <;> exact Tq _ (by decide) (by decide)
theorem O3 {n:List UInt8} (h:Gt n):GoodT (Mn n):=.mk _ _ _ _ _ _ (.var _ h) (fun e he=>by cases he)
theorem Na {n:List UInt8} (h:Gt n) (p:Nat) (b f:Bool):Jt ⟨n,p,b,f,[],false⟩:=⟨h,fun _=>rfl,fun h=>absurd rfl h⟩
theorem Se (n:List UInt8):Hw (Mn n)=1:=by show IntKind.i64.wrap (0 + 1)=1; rw [IntKind.wrap_i64]; rfl
theorem Ku {n:List UInt8} (h:Gt n):sW [(n,0)]:=⟨by simp,fun x hx=>by obtain rfl:=List.mem_singleton.1 hx; exact h⟩
def cN (i:Nat):List UInt8:=[99,Hk i]
def tN (i:Nat):List UInt8:=[116,Hk i]
def Ju:Nat → List UInt8 × Bool → List Bool → List PD
 | i,w,[]=>[⟨tN i,0,false,false,w.1,w.2⟩]
 | i,w,o :: l=>⟨cN i,0,true,false,w.1,w.2⟩ :: ⟨tN i,0,false,false,w.1,w.2⟩ :: Ju (i + 1) (cN i,o) l
def Zx (wrong:Int) (i:Nat) (o:Bool):List PE:=if (o != decide (wrong=(i:Int)))=true then [O8 0,Mn (tN (i + 1))] else [Mn (tN (i + 1)),O8 0]
def R4 (wrong:Int):Nat → List Bool → List PQ
 | i,[]=>[⟨[(tN i,0)],false,O8 5⟩,⟨[([121],0)],false,Mn (tN 0)⟩]
 | i,o :: l=>⟨[(cN i,0)],false,if i=0 then Mn [98] else kM true⟩ :: ⟨[(tN i,0)],false,.mk 12 0 0 (cN i) false (Zx wrong i o)⟩ :: R4 wrong (i + 1) l
def wW (offs:List Bool) (wrong:Int):PN:=⟨[102],0,[⟨[98],0,true,false,[],false⟩],[⟨[121],0,false,false,[],false⟩],Ju 0 ([],false) offs,R4 wrong 0 offs⟩
def cD:List UInt8:=[110,111,100,101,32,102,40,98,58,32,98,111,111,108,41,32,114,101,116,117,114,110,115,32,40,121,58,32,105,110,116,41,32,118,97,114,32]
def qC:List UInt8:=[108,101,116,32]
def telK:List UInt8:=[116,101,108]
def Vs (offs:List Bool) (wrong:Int):List UInt8:=(((cD ++ Ht (Ju 0 ([],false) offs)) ++ qC) ++ L9 (R4 wrong 0 offs)) ++ telK
theorem varsD_ne (i:Nat) (w:List UInt8 × Bool) (l:List Bool):∃ d r,Ju i w l=d :: r:=by
 cases l with
 | nil=>exact ⟨_,_,rfl⟩
 | cons o l=>exact ⟨_,_,rfl⟩
theorem textKd_is (offs:List Bool) (wrong:Int):V5 [wW offs wrong]=Vs offs wrong:=by
 show Lf (wW offs wrong)=_
 unfold Lf wW
 obtain ⟨d,r,h⟩:=varsD_ne 0 ([],false) offs
 have hv:Xe (Ju 0 ([],false) offs)=[118,97,114,32] ++ Ht (Ju 0 ([],false) offs):=by rw [h]; rfl
 unfold Vs cD qC telK
 simp only [hv]
 generalize Ht (Ju 0 ([],false) offs)=V
 generalize L9 (R4 wrong 0 offs)=Q
 simp [I4,Lib.join,Gg,Ji]
theorem Y8 (i:Nat) (h:i < 10):Gt (cN i):=by
 have hi:i=0 ∨ i=1 ∨ i=2 ∨ i=3 ∨ i=4 ∨ i=5 ∨ i=6 ∨ i=7 ∨ i=8 ∨ i=9:=by omega
 rcases hi with rfl | rfl | rfl | rfl | rfl | rfl | rfl | rfl | rfl | rfl <;> exact Tq _ (by decide) (by decide)
theorem Sb (i:Nat) (h:i < 10):Gt (tN i):=by
 have hi:i=0 ∨ i=1 ∨ i=2 ∨ i=3 ∨ i=4 ∨ i=5 ∨ i=6 ∨ i=7 ∨ i=8 ∨ i=9:=by omega
 rcases hi with rfl | rfl | rfl | rfl | rfl | rfl | rfl | rfl | rfl | rfl <;> exact Tq _ (by decide) (by decide)
def OkW (w:List UInt8 × Bool):Prop:=(w.1=[] → w.2=false) ∧ (w.1 ≠ [] → Gt w.1)
theorem good_dw {n:List UInt8} (h:Gt n) (b:Bool) {w:List UInt8 × Bool} (hw:OkW w):Jt ⟨n,0,b,false,w.1,w.2⟩:=⟨h,hw.1,hw.2⟩
theorem qP:∀ (l:List Bool) (i:Nat) (w:List UInt8 × Bool),i + l.length < 10 → OkW w → ∀ d ∈ Ju i w l,Jt d
 | [],i,w,hl,hw,d,hd=>by
  obtain rfl:=List.mem_singleton.1 hd
  exact good_dw (Sb i (by simpa using hl)) false hw
 | o :: l,i,w,hl,hw,d,hd=>by
  simp only [List.length_cons] at hl
  rcases List.mem_cons.1 hd with rfl | hd
  ·exact good_dw (Y8 i (by omega)) true hw
  ·rcases List.mem_cons.1 hd with rfl | hd
   ·exact good_dw (Sb i (by omega)) false hw
   ·exact qP l (i + 1) (cN i,o) (by omega) ⟨(fun h=>by cases h),fun _=>Y8 i (by omega)⟩ d hd
theorem mkids_cases (wrong:Int) (i:Nat) (o:Bool):Zx wrong i o=[O8 0,Mn (tN (i + 1))] ∨ Zx wrong i o=[Mn (tN (i + 1)),O8 0]:=by
 unfold Zx; split
 ·exact .inl rfl
 ·exact .inr rfl
theorem iN (n:Int):Hw (O8 n)=1:=by show IntKind.i64.wrap (0 + 1)=1; rw [IntKind.wrap_i64]; rfl
theorem deep_two (a b:PE) (ha:Hw a=1) (hb:Hw b=1) (k:Nat) (n:List UInt8):¬ Hw (.mk k 0 0 n false [a,b]) > 40:=by
 show ¬ IntKind.i64.wrap ((if Hw b > (if Hw a > 0 then Hw a else 0) then Hw b else (if Hw a > 0 then Hw a else 0)) + 1) > 40
 rw [ha,hb,IntKind.wrap_i64]
 decide
theorem good_mk {i:Nat} (h:i < 9) (wrong:Int) (o:Bool):Ql ⟨[(tN i,0)],false,.mk 12 0 0 (cN i) false (Zx wrong i o)⟩:=by
 have n1:=Y8 i (by omega)
 have n2:=Sb (i + 1) (by omega)
 have n3:=Sb i (by omega)
 rcases mkids_cases wrong i o with e | e
 ·rw [e]
  exact ⟨Ku n3,.mk _ _ _ _ _ _ (.merge _ _ _ n1) (fun e he=>by
   simp only [List.mem_cons,List.not_mem_nil,or_false] at he
   rcases he with rfl | rfl
   ·exact U9 0 (by omega)
   ·exact O3 n2),(fun h=>Bool.noConfusion h),deep_two _ _ (iN 0) (Se _) _ _⟩
 ·rw [e]
  exact ⟨Ku n3,.mk _ _ _ _ _ _ (.merge _ _ _ n1) (fun e he=>by
   simp only [List.mem_cons,List.not_mem_nil,or_false] at he
   rcases he with rfl | rfl
   ·exact O3 n2
   ·exact U9 0 (by omega)),(fun h=>Bool.noConfusion h),deep_two _ _ (Se _) (iN 0) _ _⟩
theorem good_boolE (b:Bool):GoodT (kM b):=.mk _ _ _ _ _ _ (.truth _ (by cases b <;> simp)) (fun e he=>by cases he)
theorem wH (wrong:Int):∀ (l:List Bool) (i:Nat),i + l.length < 10 → ∀ q ∈ R4 wrong i l,Ql q
 | [],i,hl,q,hq=>by
  have hi:i < 10:=by simpa using hl
  simp only [R4,List.mem_cons,List.not_mem_nil,or_false] at hq
  rcases hq with rfl | rfl
  ·exact ⟨Ku (Sb i hi),U9 5 (by omega),(fun h=>Bool.noConfusion h),by rw [iN]; decide⟩
  ·exact ⟨Ku (Gk 121 (by decide)),O3 (Sb 0 (by decide)),(fun h=>Bool.noConfusion h),by rw [Se]; decide⟩
 | o :: l,i,hl,q,hq=>by
  simp only [List.length_cons] at hl
  rcases List.mem_cons.1 hq with rfl | hq
  ·refine ⟨Ku (Y8 i (by omega)),?_,(fun h=>Bool.noConfusion h),?_⟩
   ·show GoodT (if i=0 then Mn [98] else kM true)
    split
    ·exact O3 (Gk 98 (by decide))
    ·exact good_boolE true
   ·show ¬ Hw (if i=0 then Mn [98] else kM true) > 40
    split
    ·rw [Se]; decide
    ·show ¬ IntKind.i64.wrap (0 + 1) > 40
     rw [IntKind.wrap_i64]; decide
  ·rcases List.mem_cons.1 hq with rfl | hq
   ·exact good_mk (by omega) wrong o
   ·exact wH wrong l (i + 1) (by omega) q hq
theorem good_deepN (offs:List Bool) (h:offs.length ≤ 9) (wrong:Int):GoodNode (wW offs wrong):=by
 refine ⟨Gk 102 (by decide),fun d hd=>?_,fun d hd=>?_,fun d hd=>?_,fun q hq=>?_⟩
 ·obtain rfl:=List.mem_singleton.1 hd
  exact ⟨Na (Gk 98 (by decide)) _ _ _,rfl⟩
 ·obtain rfl:=List.mem_singleton.1 hd
  exact ⟨Na (Gk 121 (by decide)) _ _ _,rfl⟩
 ·exact qP offs 0 ([],false) (by omega) ⟨fun _=>rfl,fun h=>absurd rfl h⟩ d hd
 ·exact wH wrong offs 0 (by omega) q hq
theorem mY (i:Nat) (o:Bool):(L3 (cN i) o).length ≤ 12:=by
 unfold L3 cN; cases o <;> simp
theorem aZ (x:UInt8) (i:Nat) (b:Bool) (w:List UInt8 × Bool) (hw:w.1=[] ∨ ∃ j,w.1=cN j):(Gg ⟨[x,Hk i],0,b,false,w.1,w.2⟩).length ≤ 20:=by
 have ht:(Ji b false).length ≤ 4:=by cases b <;> decide
 unfold Gg
 split
 ·simp only [List.length_append,List.length_cons,List.length_nil]; omega
 ·rename_i hne
  rcases hw with h | ⟨j,h⟩
  ·exact absurd h hne
  ·have:=mY j w.2
   simp only [h,List.length_append,List.length_cons,List.length_nil] at this ⊢
   omega
theorem Tc:∀ (l:List Bool) (i:Nat) (w:List UInt8 × Bool),(w.1=[] ∨ ∃ j,w.1=cN j) → (Ht (Ju i w l)).length ≤ 44 * (l.length + 1)
 | [],i,w,hw=>by
  have h:=aZ 116 i false w hw
  show (Gg ⟨tN i,0,false,false,w.1,w.2⟩ ++ 59 :: 32 :: []).length ≤ _
  simp only [tN,List.length_append,List.length_cons,List.length_nil] at h ⊢
  omega
 | o :: l,i,w,hw=>by
  have h1:=aZ 99 i true w hw
  have h2:=aZ 116 i false w hw
  have ih:=Tc l (i + 1) (cN i,o) (.inr ⟨i,rfl⟩)
  show (Gg ⟨cN i,0,true,false,w.1,w.2⟩ ++ 59 :: 32 :: (Gg ⟨tN i,0,false,false,w.1,w.2⟩ ++ 59 :: 32 :: Ht (Ju (i + 1) (cN i,o) l))).length ≤ _
  simp only [cN,tN,List.length_append,List.length_cons] at h1 h2 ih ⊢
  omega
theorem nJ (i:Nat) (a b:PE):D3 (.mk 12 0 0 (cN i) false [a,b])=((((([109,101,114,103,101,32] ++ cN i) ++ [32,40]) ++ D3 a) ++ [41,32,40]) ++ D3 b) ++ [41]:=by
 show ((((([109,101,114,103,101,32] ++ cN i) ++ [32,40]) ++ kT [⟨D3 a,D1 a,Ic a⟩,⟨D3 b,D1 b,Ic b⟩] 0 0) ++ [41,32,40]) ++ kT [⟨D3 a,D1 a,Ic a⟩,⟨D3 b,D1 b,Ic b⟩] 1 0) ++ [41]=_
 have h:∀ x:Nat,¬ x < 0:=fun x=>Nat.not_lt_zero x
 simp [kT,h]
theorem uA:D3 (O8 0)=[48]:=by
 have e1:Lib.itoa 0=[48]:=by unfold Lib.itoa; rw [if_neg (by decide),show (0:Int).toNat=0 from rfl,Lib.decDigits,dif_pos (by decide)]; rfl
 exact e1
theorem text_num5:D3 (O8 5)=[53]:=by
 have e1:Lib.itoa 5=[53]:=by unfold Lib.itoa; rw [if_neg (by decide),show (5:Int).toNat=5 from rfl,Lib.decDigits,dif_pos (by decide)]; rfl
 exact e1
theorem fM (n:List UInt8):D3 (Mn n)=n:=rfl
def bW (wrong:Int) (i:Nat) (o:Bool):List UInt8:=if (o != decide (wrong=(i:Int)))=true then [48] else tN (i + 1)
def bV (wrong:Int) (i:Nat) (o:Bool):List UInt8:=if (o != decide (wrong=(i:Int)))=true then tN (i + 1) else [48]
theorem text_mk (wrong:Int) (i:Nat) (o:Bool):D3 (.mk 12 0 0 (cN i) false (Zx wrong i o))=((((([109,101,114,103,101,32] ++ cN i) ++ [32,40]) ++ bW wrong i o) ++ [41,32,40]) ++ bV wrong i o) ++ [41]:=by
 unfold Zx bW bV
 split
 ·rw [nJ,uA,fM]
 ·rw [nJ,uA,fM]
theorem side_len (wrong:Int) (i:Nat) (o:Bool):(bW wrong i o).length ≤ 2 ∧ (bV wrong i o).length ≤ 2:=by
 unfold bW bV tN
 split <;> simp
def dR (wrong:Int) (i:Nat) (o:Bool):List UInt8:=(((cN i ++ [32,61,32]) ++ (if i=0 then [98] else [116,114,117,101])) ++ [59,32]) ++ ((((((((tN i ++ [32,61,32,109,101,114,103,101,32]) ++ cN i) ++ [32,40]) ++ bW wrong i o) ++ [41,32,40]) ++ bV wrong i o) ++ [41,59,32]))
theorem rE (wrong:Int) (i:Nat) (o:Bool) (l:List Bool):L9 (R4 wrong i (o :: l))=dR wrong i o ++ L9 (R4 wrong (i + 1) l):=by
 have h1:D3 (if i=0 then Mn [98] else kM true)=if i=0 then [98] else [116,114,117,101]:=by split <;> rfl
 show iE ⟨[(cN i,0)],false,if i=0 then Mn [98] else kM true⟩ ++ (iE ⟨[(tN i,0)],false,.mk 12 0 0 (cN i) false (Zx wrong i o)⟩ ++ L9 (R4 wrong (i + 1) l))=_
 simp only [iE,eqT,text_mk,h1,dR]
 generalize bW wrong i o=A
 generalize bV wrong i o=B
 generalize (if i=0 then ([98]:List UInt8) else [116,114,117,101])=C
 simp [Ka,Lib.join_one]
theorem wT (wrong:Int) (i:Nat):L9 (R4 wrong i [])=tN i ++ [32,61,32,53,59,32,121,32,61,32,116,48,59,32]:=by
 show iE ⟨[(tN i,0)],false,O8 5⟩ ++ (iE ⟨[([121],0)],false,Mn (tN 0)⟩ ++ [])=_
 have h0:tN 0=[116,48]:=rfl
 simp only [iE,eqT,text_num5,fM,h0]
 simp [Ka,Lib.join_one]
theorem Ze (wrong:Int):∀ (l:List Bool) (i:Nat),(L9 (R4 wrong i l)).length ≤ 60 * (l.length + 1)
 | [],i=>by
  rw [wT]
  simp only [tN,List.length_append,List.length_cons,List.length_nil]
  omega
 | o :: l,i=>by
  have ih:=Ze wrong l (i + 1)
  have h:=side_len wrong i o
  rw [rE]
  unfold dR
  have hc:(if i=0 then ([98]:List UInt8) else [116,114,117,101]).length ≤ 4:=by split <;> decide
  simp only [cN,tN,List.length_append,List.length_cons,List.length_nil] at h hc ih ⊢
  omega
theorem nL (offs:List Bool) (h:offs.length ≤ 9) (wrong:Int):(Vs offs wrong).length ≤ 1200:=by
 have h1:=Tc offs 0 ([],false) (.inl rfl)
 have h2:=Ze wrong offs 0
 unfold Vs
 simp only [cD,qC,telK,List.length_append,List.length_cons,List.length_nil]
 omega
theorem textKd_read (offs:List Bool) (h:offs.length ≤ 9) (wrong:Int):∃ us ms,Kt (Vs offs wrong)=some (.inr us) ∧ Kg 70000 (.inr us)=some (.inl ms) ∧ Each2 Lo [wW offs wrong] ms:=by
 have hl:=nL offs h wrong
 rw [← textKd_is] at hl ⊢
 refine gB (by simp) (fun x hx=>?_) (by omega)
 obtain rfl:=List.mem_singleton.1 hx
 exact good_deepN offs h wrong
end Go.Ax
noncomputable section
namespace Go.Ax
open Go.RowKit
def Gh.fz (γ:Gh) (b n:Nat):Gh:={ γ with im:=fun b' o=>γ.im b' o ∨ (b' = b ∧ o < n) }
theorem Ev.fz (γ:Gh) (w:World) (b n:Nat) (h:∀ o,o < n → ∀ v,w.cell? ⟨b,o,none⟩=some v → w.cell? ⟨b,o,none⟩=some v):Ev γ w (γ.fz b n) w :=
 ⟨fun _ _ h=>h,fun _ _ h=>.inl h,fun _ _ _ _ h=>h,fun _ arr _ fr h=>⟨arr,fr,h,rfl⟩⟩
theorem cell_arr {w:World} {b:Nat} {arr:Array Value} {T:TypeId} {fr:Nat × Nat} (ha:w.heap[b]? = some (Obj.cells arr T fr)) (o:Nat):w.cell? ⟨b,o,none⟩=arr[o]?:=by
 unfold World.cell?
 rw [ha]
 simp
theorem SR.freeze {base:Nat} {w0 w:World} {γ:Gh} {S:St} (h:SR base w0 γ S w) {id:Nat} {cs:List AV} (hid:2 ≤ id) (hm:S.mem.get id=some (.box cs)) {b s:Nat} (hl:γ.loc id=some (b,s)) :
  SR base w0 (γ.fz b cs.length) (S.kill id) w ∧ Ext γ S w (γ.fz b cs.length) (S.kill id) w ∧ s=0 ∧ ∃ (arr:Array Value) (T:TypeId) (x:List Value),w.heap[b]? = some (Obj.cells arr T (0,0)) ∧ x.length=cs.length ∧ (∀ k (h:k < cs.length) (h':k < x.length),w.cell? ⟨b,k,none⟩=some x[k] ∧ VR γ w cs[k] x[k]) ∧ (∀ c ∈ cs,c.one=true):=by
 obtain ⟨b',s',l1,l2,hs0,hni,hone,arr,T,x,y,ha,hx,hr⟩:=h.live id _ hm
 rw [hl] at l1
 injection l1 with l1; injection l1 with e1 e2
 subst e1; subst e2
 have hk:=h.kill id
 have hcell:∀ k (h:k < cs.length) (h':k < x.length),w.cell? ⟨b,k,none⟩=some x[k]:=fun k h1 h2=>by
  rw [cell_arr ha,← Array.getElem?_toList,hx,List.getElem?_append_left h2,List.getElem?_eq_getElem h2]
 have ev:Ev γ w (γ.fz b cs.length) w:=Ev.fz γ w b _ (fun _ _ _ h=>h)
 refine ⟨⟨hk.below,hk.hbase,fun b2 o ho=>?_,hk.fresh,hk.pos,hk.inb,fun i c e=>?_,hk.inj⟩,⟨ev,by rw [St.kill_next]; exact Nat.le_refl _,fun _ _=>rfl,Nat.le_refl _,fun i c b2 s2 e l=>.inr ⟨i,c,s2,Xw S id i c e,l⟩,fun b2 hb2 hn=>⟨rfl,fun o ho=>?_⟩⟩,hs0,arr,T,x,ha,hr.1,fun k h1 h2=>⟨hcell k h1 h2,hr.2 k h1 h2⟩,hone⟩
 ·rcases ho with ho | ⟨rfl,ho⟩
  ·exact h.imc b2 o ho
  ·exact ⟨_,hcell o ho (by rw [hr.1]; exact ho)⟩
 ·obtain ⟨b2,s2,m1,m2,m3⟩:=hk.live i c e
  have e':S.mem.get i=some c:=Xw S id i c e
  have hne:b2 ≠ b:=fun hb=>by
   subst hb
   have:i=id:=h.inj i id c _ b2 s2 s e' hm m1 hl
   subst this
   rw [St.kill_get S i i hid,if_pos rfl] at e
   cases e
  refine ⟨b2,s2,m1,m2,?_⟩
  cases c with
  | box ds =>
   obtain ⟨h0,h1,h2,arr2,T2,x2,y2,g1,g2,g3⟩:=m3
   exact ⟨h0,fun o ho=>by
    rcases ho with ho | ⟨ho,_⟩
    ·exact h1 o ho
    ·exact hne ho,h2,arr2,T2,x2,y2,g1,g2,g3.mono ev⟩
  | tip m =>
   obtain ⟨arr2,T2,g1,g2,g3⟩:=m3
   exact ⟨arr2,T2,g1,fun k hk=>by
    rcases hk with hk | ⟨hk,_⟩
    ·exact g2 k hk
    ·exact absurd hk hne,g3⟩
  | mp es =>
   obtain ⟨h0,ms,clock,g1,g2,g3⟩:=m3
   exact ⟨h0,ms,clock,g1,g2,fun k k1 k2=>⟨(g3 k k1 k2).1,(g3 k k1 k2).2.mono ev⟩⟩
 ·rcases ho with ho | ⟨rfl,ho⟩
  ·exact ho
  ·exact absurd hl (hn id _ s hm)
theorem VR.frozen {base:Nat} {w0 w:World} {γ:Gh} {S:St} (h:SR base w0 γ S w) {id n sz:Nat} {es:List AV} {v:Value} (hid:2 ≤ id) (hm:S.mem.get id=some (.box (Er es))) (hn:n=es.length) (hes:∀ e ∈ es,e.cells.length=sz) (hp:∀ a ∈ Er es,a.plain=true) (hv:VR γ w (.bs id 0 n sz) v):∃ b,γ.loc id=some (b,0) ∧ VR (γ.fz b (Er es).length) w (.sl 0 0 sz es) v:=by
 cases hv with
 | bs _ _ _ _ b s cap hl hc hsz hb =>
  obtain ⟨_,_,hs0,arr,T,x,ha,hxl,hcell,hone⟩:=h.freeze hid hm hl
  subst hs0
  subst hn
  refine ⟨b,hl,?_⟩
  have hb0:(0:Nat) + 0=0:=rfl
  rw [hb0]
  refine .sl 0 0 sz es b 0 cap (fun k=>x.getD k undef) hsz hes hone (fun k hk=>⟨.inr ⟨rfl,by omega⟩,?_⟩) (fun k hk=>?_) (fun h=>by omega) (fun h=>by omega) hc ?_
  ·have h2:k < x.length:=by omega
   rw [Nat.zero_add,(hcell k hk h2).1,List.getD_eq_getElem?_getD,List.getElem?_eq_getElem h2]
   rfl
  ·have h2:k < x.length:=by omega
   have:=(hcell k hk h2).2
   rw [List.getD_eq_getElem?_getD,List.getElem?_eq_getElem h2]
   exact this.plain (hp _ (List.getElem_mem hk))
  ·obtain ⟨arr2,T2,fr2,g1,g2⟩:=hb
   exact ⟨arr2,T2,fr2,g1,by simpa using g2⟩
end Go.Ax
noncomputable section
namespace Go.Ax
open Go.RowKit Go.Proofs
set_option maxRecDepth 100000
def rowM10 (t:Nat):Nat:=Bool.rec (yW t) 2 (Nat.beq t 169)
def E10:Env:={ P:=Tryz.prog,G:=G7,F:=E1.F,I:=mI,M:=rowM10 }
theorem e10_ok:E10.Ok:=⟨fun k fn h=>Rv.fn k fn h⟩
theorem e10_mix:E10.P.follows .mixedOrders=true:=Rn
theorem e10_intr:Kw E10:=e9_intr
theorem K5:E10.P=Tryz.prog:=_root_.id rfl
theorem e10_G:E10.G=G7:=_root_.id rfl
theorem i10_22 (args:List AV) (S:St) (Q:R → Prop) (h:Q (lE args S)):WC E10 22 args S Q:=Ln (g:=lE) (by kernel_rfl) h
theorem fnt_22:∃ fn,E10.F 22=some fn:=Option.isSome_iff_exists.1 (by kernel_rfl)
theorem fnt_136:∃ fn,E10.F 136=some fn:=Option.isSome_iff_exists.1 (by kernel_rfl)
theorem fnt_137:∃ fn,E10.F 137=some fn:=Option.isSome_iff_exists.1 (by kernel_rfl)
def H7:List PD → List UInt8 → Option PD
 | [],_=>none
 | d :: l,n=>if d.name=n then some d else H7 l n
theorem iA:∀ (a b:List PD) (n:List UInt8),H7 (a ++ b) n=match H7 a n with | some d=>some d | none=>H7 b n
 | [],b,n=>rfl
 | d :: a,b,n=>by
  show (if d.name=n then some d else H7 (a ++ b) n)=(match (if d.name=n then some d else H7 a n) with | some d=>some d | none=>H7 b n)
  by_cases h:d.name=n
  ·rw [if_pos h,if_pos h]
  ·rw [if_neg h,if_neg h]
   exact iA a b n
def Mp:PD:=⟨[],0,false,false,[],false⟩
theorem fW {v:AV} {ds:List PD} (h:F2 6 Fq v ds):v=.nils ∨ ∃ tok off es,v=.sl tok off 6 es:=by
 rcases h with ⟨rfl,_⟩ | ⟨tok,off,rfl⟩
 ·exact .inl rfl
 ·exact .inr ⟨_,_,_,rfl⟩
theorem bl228 {a b c:AV} (ha:a=.nils ∨ ∃ tok off es,a=.sl tok off 6 es) (hb:b=.nils ∨ ∃ tok off es,b=.sl tok off 6 es) (hc:c=.nils ∨ ∃ tok off es,c=.sl tok off 6 es):Gc Tryz.prog 228 [(0,a),(1,b),(2,c)]=some (.agg [a,b,c]):=by
 rcases ha with rfl | ⟨_,_,_,rfl⟩ <;> rcases hb with rfl | ⟨_,_,_,rfl⟩ <;> rcases hc with rfl | ⟨_,_,_,rfl⟩ <;> kernel_rfl
theorem ix228_0 {a b c:AV} (ha:a=.nils ∨ ∃ tok off es,a=.sl tok off 6 es):Jy Tryz.prog 228 (.agg [a,b,c]) (.v (.int .i64 0))=some a:=by
 rcases ha with rfl | ⟨_,_,_,rfl⟩ <;> kernel_rfl
theorem ix228_1 {a b c:AV} (ha:b=.nils ∨ ∃ tok off es,b=.sl tok off 6 es):Jy Tryz.prog 228 (.agg [a,b,c]) (.v (.int .i64 1))=some b:=by
 rcases ha with rfl | ⟨_,_,_,rfl⟩ <;> kernel_rfl
theorem ix228_2 {a b c:AV} (ha:c=.nils ∨ ∃ tok off es,c=.sl tok off 6 es):Jy Tryz.prog 228 (.agg [a,b,c]) (.v (.int .i64 2))=some c:=by
 rcases ha with rfl | ⟨_,_,_,rfl⟩ <;> kernel_rfl
theorem bl54z:Gc Tryz.prog 54 []=some (.agg (Eu Mp)):=by kernel_rfl
def nmIn:Code:=match Tryz.f136.body with
 | some (.seq _ (.seq (.seq _ (.block _ (.loop (.seq _ (.seq _ (.seq (.block _ (.seq _ (.seq _ (.block _ (.loop b))))) _)))))) _))=>b
 | some (.seq _ (.seq (.seq _ (.block _ (.loop (.seq _ (.seq (.seq _ (.seq (.block _ (.seq _ (.seq _ (.block _ (.loop b))))) _)) _))))) _))=>b
 | _=>.skip
theorem ld54q {S:St} {id:Nat} {d:PD} (h:S.mem.get id=some (.box (Eu d))):Cd Tryz.prog S 54 (.ptr id 0)=some (.agg (Eu d)):=by
 simp [Cd,D0,h,ag54,fO,Eu]
def LoopNm (ds:List PD) (name:List UInt8) (q:Nat) (S0:St) (t:T AV) (r:O):Prop :=
 (∃ d,H7 ds name=some d ∧ ∃ t' S',r=.out .ret ⟨t',[]⟩ S' ∧ t'.get 4=some (.ptr q 0) ∧ t'.get 5=some (.v (.bool true)) ∧ S'.mem.get q=some (.box (Eu d)) ∧ D7 q S0 S') ∨
 (H7 ds name=none ∧ ∃ t' S',r=.out (.exit 2) ⟨t',[]⟩ S' ∧ t'.get 1=t.get 1 ∧ t'.get 4=t.get 4 ∧ t'.get 5=t.get 5 ∧ t'.get 16=t.get 16 ∧ t'.get 17=t.get 17 ∧ D7 q S0 S' ∧ S'.mem.get q=some (.box (Eu Mp)))
theorem nm_lp {a:AV} (ds:List PD) (ha:F2 6 Fq a ds) (hl:ds.length ≤ 1000000) (name:List UInt8) (q:Nat) (S0:St) (hq:q < S0.next) (t0:T AV):∀ (n j:Nat) (t:T AV) (S:St),j + n=ds.length → t.get 1=some (Bt name) → t.get 4=some (.ptr q 0) → t.get 20=some a → t.get 21=some (Dq ds.length) → t.get 22=some (Dq j) → (t.get 1=t0.get 1 ∧ t.get 4=t0.get 4 ∧ t.get 5=t0.get 5 ∧ t.get 16=t0.get 16 ∧ t.get 17=t0.get 17) → S.mem.get q=some (.box (Eu Mp)) → D7 q S0 S →
  WX E10 34 (.loop nmIn) ⟨t,[]⟩ S (LoopNm (ds.drop j) name q S0 t0)
 | 0,j,t,S,hj,h1,h4,h20,h21,h22,hs,hz,hk=>by
  refine Do (Dh ?_)
  have hlt:¬ ((j:Int) < (ds.length:Int)):=by omega
  simp only [Dq] at h21 h22
  simp only [Bv,Bo,A6,Bk,Bl,Bq,C1,A4,Ci,Be,A7,A9,A8,B6,A5,Bc,Ba,A0,ofOpt,Bs,Cu,Nat.reduceLT,Nat.reduceEqDiff,Aa,Ab,Ac,Am,Aq,K5,nmIn,Tryz.f136,h21,h22,hlt]
  rw [List.drop_of_length_le (by omega)]
  obtain ⟨s1,s2,s3,s4,s5⟩:=hs
  exact .inr ⟨rfl,_,_,rfl,by simp only [A0,A1,Nat.reduceEqDiff,Aa,Ab,s1],by simp only [A0,A1,Nat.reduceEqDiff,Aa,Ab,s2],by simp only [A0,A1,Nat.reduceEqDiff,Aa,Ab,s3],by simp only [A0,A1,Nat.reduceEqDiff,Aa,Ab,s4],by simp only [A0,A1,Nat.reduceEqDiff,Aa,Ab,s5],hk,hz⟩
 | n + 1,j,t,S,hj,h1,h4,h20,h21,h22,hs,hz,hk=>by
  refine Do (Dh ?_)
  have hjl:j < ds.length:=by omega
  have hlt:((j:Int) < (ds.length:Int)):=by omega
  have hw:IntKind.i64.wrap ((j:Int) + 1)=((j + 1:Nat):Int):=by rw [IntKind.wrap_i64]; omega
  have hx:=qK ha j hjl
  rw [List.drop_eq_getElem_cons hjl]
  generalize ds[j]=d at hx
  have hep:=qD S d
  have al:=T3 S
  have q1:=Xj (Cv S J0) rfl d
  obtain ⟨k2,g2,l2⟩:=Jj S J0 (Eu d)
  have hnq:q < S.next:=Nat.lt_of_lt_of_le hq hk.1
  have z2:((S.newBox J0).put S.next (Eu d)).mem.get q=_:=(k2.2 q hnq).trans hz
  generalize hS2:(S.newBox J0).put S.next (Eu d)=S2 at q1 k2 g2 l2 z2
  have ln:Cd Tryz.prog S2 9 (.ptr S.next 0)=some (.v (.string ⟨⟨d.name⟩⟩)):=by rw [Q3,g2]; rfl
  have hk2:=hk.trans (k2.x q)
  simp only [Dq] at h21 h22
  simp only [Bt] at h1
  by_cases hn:d.name=name
  ·have e1:decide (d.name=name)=true:=decide_eq_true hn
   have ld:=ld54q g2
   have st:=Xj z2 rfl d
   have st2:=Ed S2 q (Eu d)
   have k3:D7 q S2 (S2.put q (Eu d)):=⟨Nat.le_refl _,fun id _ hne=>Eg hne⟩
   generalize hS3:S2.put q (Eu d)=S3 at st st2 k3
   simp only [Bw,Bv,Dk,Bo,A6,Bk,Bl,Bq,C1,B1,A4,Ci,B4,Bn,B3,Be,A7,A9,C4,Df,A8,B8,A5,Bc,Ba,A0,ofOpt,ofOptS,Bb,Bs,Cu,Dg,Nat.reduceLT,Nat.reduceEqDiff,Aa,Ab,Ac,Am,Ap,K5,Ge,Cy,nmIn,Tryz.f136,h1,h4,h20,h21,h22,hlt,hx,hep,al,q1,fa54_0,ln,e1,ld,st]
   refine .inl ⟨d,?_,_,_,rfl,?_,?_,st2,hk2.trans k3⟩
   ·show (if d.name=name then some d else _)=_
    rw [if_pos hn]
   ·simp only [A0,A1,Nat.reduceEqDiff,Aa,Ab,h4]
   ·simp only [A0,A1,Nat.reduceEqDiff,Aa,Ab]
  ·have e1:decide (d.name=name)=false:=decide_eq_false hn
   simp only [Bw,Bv,Bo,A6,Bk,Bl,Bq,C1,A4,Ci,Bn,Be,A7,A9,C4,Df,A8,B8,B6,A5,Bc,Ba,A0,ofOpt,ofOptS,Bb,Bs,Cu,Dg,Nat.reduceLT,Nat.reduceEqDiff,Aa,Ab,Ac,Am,Ap,K5,Ge,Cy,nmIn,Tryz.f136,h1,h20,h21,h22,hlt,hx,hep,al,q1,fa54_0,ln,e1,hw]
   have hfd:H7 (d :: ds.drop (j + 1)) name=H7 (ds.drop (j + 1)) name:=by
    show (if d.name=name then some d else _)=_
    rw [if_neg hn]
   have key:=nm_lp ds ha hl name q S0 hq t0 n (j + 1)
   unfold LoopNm at key ⊢
   rw [hfd]
   obtain ⟨s1,s2,s3,s4,s5⟩:=hs
   refine key _ S2 (by omega) ?_ ?_ ?_ ?_ ?_ ⟨?_,?_,?_,?_,?_⟩ z2 hk2
   ·simp only [A0,A1,Nat.reduceEqDiff,Aa,Ab,h1]; rfl
   ·simp only [A0,A1,Nat.reduceEqDiff,Aa,Ab,h4]
   ·simp only [A0,A1,Nat.reduceEqDiff,Aa,Ab,h20]
   ·simp only [A0,A1,Nat.reduceEqDiff,Aa,Ab,h21]; rfl
   ·simp only [A0,A1,Nat.reduceEqDiff,Aa,Ab]; rfl
   ·simp only [A0,A1,Nat.reduceEqDiff,Aa,Ab,s1]
   ·simp only [A0,A1,Nat.reduceEqDiff,Aa,Ab,s2]
   ·simp only [A0,A1,Nat.reduceEqDiff,Aa,Ab,s3]
   ·simp only [A0,A1,Nat.reduceEqDiff,Aa,Ab,s4]
   ·simp only [A0,A1,Nat.reduceEqDiff,Aa,Ab,s5]
end Go.Ax
