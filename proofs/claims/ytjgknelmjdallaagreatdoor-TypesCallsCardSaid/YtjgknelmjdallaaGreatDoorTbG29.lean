/- Jd -/
import Derived.Test.YtjgknelmjdallaaGreatDoorTbG28
import Derived.Test.YtjgknelmjdallaaGreatDoorTbG25
import Derived.Test.YtjgknelmjdallaaGreatDoorTbG12
import Derived.Lib.LaidTab
import Derived.Deep.Strs
import Derived.Deep.Grids
import Derived.OpenShut
set_option linter.unusedVariables false
set_option linter.unusedSimpArgs false
set_option maxHeartbeats 16000000
noncomputable section
namespace Go.Ax
open Go.RowKit Go.Proofs
set_option maxRecDepth 100000
theorem conv_eq (F:Operand → Value) (dst:Option Tmp) (k:Tmp) (ty:TypeId) (pos:String) (af:Array Edge) (gd:Option (Nat × Bool)):execOp F { dst:=dst,op:=.convert 3 5 (.tmp k),type:=ty,pos:=pos,after:=af,guard:=gd }=execOp (fun _=>F (.tmp k)) { dst:=none,op:=.convert 3 5 (.tmp 0),type:=ty,pos := "", after:=#[],guard:=none }:=by kernel_rfl
theorem conv_val (n:Int) (ty:TypeId):Q3 Tryz.prog 4000 (execOp (fun _=>.int .i64 n) { dst:=none,op:=.convert 3 5 (.tmp 0),type:=ty,pos := "", after:=#[],guard:=none })=some (.int .u8 (IntKind.u8.wrap n)):=by kernel_rfl
def convU (r:OR) (S:St) (x:Option AV):OR:=match x with
 | some (.v (.int .i64 n))=>.val (.v (.int .u8 (IntKind.u8.wrap n))) S
 | _=>r
theorem iV (r:OR) (S:St) (n:Int):convU r S (some (.v (.int .i64 n)))=.val (.v (.int .u8 (IntKind.u8.wrap n))) S:=rfl
theorem Sm (f:T AV) (S:St) (dst:Option Tmp) (k:Tmp) (ty:TypeId) (pos:String) (af:Array Edge) (gd:Option (Nat × Bool)) :
  ground Tryz.prog G7 f S { dst:=dst,op:=.convert 3 5 (.tmp k),type:=ty,pos:=pos,after:=af,guard:=gd }=convU (minZX Tryz.prog G7 f S { dst:=dst,op:=.convert 3 5 (.tmp k),type:=ty,pos:=pos,after:=af,guard:=gd }) S (f.get k):=by
 unfold convU
 split
 ·rename_i n h
  have hg:Dc G7 f (.tmp k)=some (.int .i64 n):=by unfold Dc; simp only [A8,h]; rfl
  unfold ground
  have hall:((Op.convert 3 5 (.tmp k):Op).operands.toList.all fun x=>(Dc G7 f x).isSome)=true:=by
   show ([Operand.tmp k].all fun x=>(Dc G7 f x).isSome)=true
   simp only [List.all_cons,List.all_nil,hg,Option.isSome_some,Bool.and_self]
  refine (if_pos hall).trans ?_
  rw [conv_eq]
  have e1:(Dc G7 f (.tmp k)).getD undef=.int .i64 n:=by rw [hg]; rfl
  simp only [e1,conv_val]
  rfl
 ·rfl
theorem cv35 (n:Int):Kp Tryz.prog 3 5 (.v (.int .i64 n))=none:=by kernel_rfl
theorem row77 (n:Int):Do Tryz.prog 77 1 [(0,.v (.int .u8 n))]=some (.sl 1 0 1 [.v (.int .u8 n)]):=by kernel_rfl
theorem s77_0:Kp Tryz.prog 77 9 (.sl 1 0 1 [.v (.int .u8 (IntKind.u8.wrap (IntKind.i64.wrap (48 + ((0:Nat):Int)))))])=some (.v (.string ⟨⟨[K5 0]⟩⟩)):=by kernel_rfl
theorem s77_1:Kp Tryz.prog 77 9 (.sl 1 0 1 [.v (.int .u8 (IntKind.u8.wrap (IntKind.i64.wrap (48 + ((1:Nat):Int)))))])=some (.v (.string ⟨⟨[K5 1]⟩⟩)):=by kernel_rfl
theorem s77_2:Kp Tryz.prog 77 9 (.sl 1 0 1 [.v (.int .u8 (IntKind.u8.wrap (IntKind.i64.wrap (48 + ((2:Nat):Int)))))])=some (.v (.string ⟨⟨[K5 2]⟩⟩)):=by kernel_rfl
theorem s77_3:Kp Tryz.prog 77 9 (.sl 1 0 1 [.v (.int .u8 (IntKind.u8.wrap (IntKind.i64.wrap (48 + ((3:Nat):Int)))))])=some (.v (.string ⟨⟨[K5 3]⟩⟩)):=by kernel_rfl
theorem str77 (j:Nat) (h:j < 4):Kp Tryz.prog 77 9 (.sl 1 0 1 [.v (.int .u8 (IntKind.u8.wrap (IntKind.i64.wrap (48 + (j:Int)))))])=some (.v (.string ⟨⟨[K5 j]⟩⟩)):=by
 have hj:j=0 ∨ j=1 ∨ j=2 ∨ j=3:=by omega
 rcases hj with rfl | rfl | rfl | rfl
 ·exact s77_0
 ·exact s77_1
 ·exact s77_2
 ·exact s77_3
theorem row69w:Do Tryz.prog 69 4 [(0,.v (.string ⟨⟨[105,110,116]⟩⟩)),(1,.v (.string ⟨⟨[98,111,111,108]⟩⟩)),(2,.v (.string ⟨⟨[102,117,116,117,114,101,32,105,110,116]⟩⟩)),(3,.v (.string ⟨⟨[102,117,116,117,114,101,32,98,111,111,108]⟩⟩))]=some (.sl 1 0 1 [Bq (I5 (false,false)),Bq (I5 (true,false)),Bq (I5 (false,true)),Bq (I5 (true,true))]):=by kernel_rfl
theorem row69n:Do Tryz.prog 69 4 [(0,.v (.string ⟨⟨[97]⟩⟩)),(1,.v (.string ⟨⟨[98]⟩⟩)),(2,.v (.string ⟨⟨[117]⟩⟩)),(3,.v (.string ⟨⟨[118]⟩⟩))]=some (.sl 1 0 1 [Bq (G4 (false,false)),Bq (G4 (true,false)),Bq (G4 (false,true)),Bq (G4 (true,true))]):=by kernel_rfl
theorem ix69w (t:Ty):Cl Tryz.prog 69 (.sl 1 0 1 [Bq (I5 (false,false)),Bq (I5 (true,false)),Bq (I5 (false,true)),Bq (I5 (true,true))]) (.v (.int .i64 ((yA t:Nat):Int)))=some (.ep [Bq (I5 t)]):=by
 obtain ⟨a,b⟩:=t; cases a <;> cases b <;> kernel_rfl
theorem ix69n (t:Ty):Cl Tryz.prog 69 (.sl 1 0 1 [Bq (G4 (false,false)),Bq (G4 (true,false)),Bq (G4 (false,true)),Bq (G4 (true,true))]) (.v (.int .i64 ((yA t:Nat):Int)))=some (.ep [Bq (G4 t)]):=by
 obtain ⟨a,b⟩:=t; cases a <;> cases b <;> kernel_rfl
def Four (xs:List AV) (ts:List Ty):Prop:=ts.length=4 ∧ ∀ j (h:j < ts.length),∃ x:Int,Cl Tryz.prog 76 (.ep xs) (.v (.int .i64 (j:Int)))=some (.ep (xs.drop j)) ∧ (∀ S,Ci Tryz.prog S 3 (.ep (xs.drop j))=some (.v (.int .i64 x))) ∧ bits .and .i64 x 3=((yA ts[j]:Nat):Int)
theorem four_any (x0 x1 x2 x3:Int):∃ ts,Four [.v (.int .i64 x0),.v (.int .i64 x1),.v (.int .i64 x2),.v (.int .i64 x3)] ts:=by
 have one:∀ x:Int,∃ t,bits .and .i64 x 3=((yA t:Nat):Int):=fun x=>by
  obtain ⟨k,hk,hl⟩:=xK x 3 (by decide)
  obtain ⟨t,ht⟩:=tyIx_any k (by omega)
  exact ⟨t,by rw [ht]; exact hk⟩
 obtain ⟨t0,h0⟩:=one x0
 obtain ⟨t1,h1⟩:=one x1
 obtain ⟨t2,h2⟩:=one x2
 obtain ⟨t3,h3⟩:=one x3
 refine ⟨[t0,t1,t2,t3],rfl,fun j h=>?_⟩
 match j,h with
 | 0,_=>exact ⟨x0,by kernel_rfl,fun S=>J1 S _ _,h0⟩
 | 1,_=>exact ⟨x1,by kernel_rfl,fun S=>J1 S _ _,h1⟩
 | 2,_=>exact ⟨x2,by kernel_rfl,fun S=>J1 S _ _,h2⟩
 | 3,_=>exact ⟨x3,by kernel_rfl,fun S=>J1 S _ _,h3⟩
def Pi:Code:=match Tryz.f8.body with
 | some (.seq _ (.seq _ c))=>c
 | _=>.skip
def V8:Code:=match Pi with
 | .seq _ (.seq _ (.seq _ (.seq _ (.seq (.seq _ (.block _ (.loop b))) _))))=>b
 | _=>.skip
def tcTail:Code:=match Pi with
 | .seq _ (.seq _ (.seq _ (.seq _ (.seq _ c))))=>c
 | _=>.skip
def tcR:Nat → Code:=fun k=>match Pi with
 | .seq a (.seq b (.seq c (.seq d (.seq (.seq e _) _))))=>match k with | 0=>a | 1=>b | 2=>c | 3=>d | _=>e
 | _=>.skip
theorem tcRest_is:Pi=.seq (tcR 0) (.seq (tcR 1) (.seq (tcR 2) (.seq (tcR 3) (.seq (.seq (tcR 4) (.block 0 (.loop V8))) tcTail)))):=by kernel_rfl
theorem nJ:∀ (ts gs:List Ty) (t g:Ty),ts.length=gs.length → O7 (ts ++ [t]) (gs ++ [g])=(O7 ts gs && ((t.1 == g.1) && (t.2 == g.2)))
 | [],[],t,g,_=>by
  show (((t.1 == g.1) && (t.2 == g.2)) && true)=(true && ((t.1 == g.1) && (t.2 == g.2)))
  rw [Bool.and_true,Bool.true_and]
 | a :: l,b :: m,t,g,h=>by
  show (((a.1 == b.1) && (a.2 == b.2)) && O7 (l ++ [t]) (m ++ [g]))=((((a.1 == b.1) && (a.2 == b.2)) && O7 l m) && _)
  rw [nJ l m t g (by simpa using h)]
  simp only [Bool.and_assoc]
 | [],_ :: _,_,_,h=>by cases h
 | _ :: _,[],_,_,h=>by cases h
def LoopTc (ts gs:List Ty) (r:O):Prop:=∃ t' S',r=.out (.exit 0) ⟨t',[]⟩ S' ∧ t'.get 7=some (Bq (Wu 0 ts)) ∧ t'.get 8=some (Bq (Qt 0 gs)) ∧ t'.get 9=some (.v (.bool (O7 ts gs)))
theorem yG {xs ys:List AV} {ts gs:List Ty} (hT:Four xs ts) (hG:Four ys gs):∀ (n j:Nat) (t:T AV) (S:St),j + n=4 → t.get 2=some (.ep xs) → t.get 3=some (.ep ys) → t.get 5=some (.sl 1 0 1 [Bq (I5 (false,false)),Bq (I5 (true,false)),Bq (I5 (false,true)),Bq (I5 (true,true))]) → t.get 6=some (.sl 1 0 1 [Bq (G4 (false,false)),Bq (G4 (true,false)),Bq (G4 (false,true)),Bq (G4 (true,true))]) → t.get 7=some (Bq (Wu 0 (ts.take j))) → t.get 8=some (Bq (Qt 0 (gs.take j))) → t.get 9=some (.v (.bool (O7 (ts.take j) (gs.take j)))) → t.get 19=some (Dl j) →
  WX E9 84 (.loop V8) ⟨t,[]⟩ S (LoopTc ts gs)
 | 0,j,t,S,hj,h2,h3,h5,h6,h7,h8,h9,h19=>by
  refine D2 (Ds ?_)
  have hlt:¬ ((j:Int) < 4):=by omega
  simp only [Dl] at h19
  simp only [Bz,Bp,A6,Cm,Bk,Bn,Bt,C9,A4,Ct,Bf,A7,Be,Bc,Cf,A5,Ba,A8,A0,ofOpt,A9,Bu,C3,Nat.reduceLT,Nat.reduceEqDiff,Aa,Ab,Ac,Am,Aq,Es,V8,Pi,Tryz.f8,h19,hlt]
  rw [List.take_of_length_le (by rw [hT.1]; omega)] at h7 h9
  rw [List.take_of_length_le (by rw [hG.1]; omega)] at h8 h9
  exact ⟨_,_,rfl,by simp only [A0,A1,Nat.reduceEqDiff,Aa,Ab,h7],by simp only [A0,A1,Nat.reduceEqDiff,Aa,Ab,h8],by simp only [A0,A1,Nat.reduceEqDiff,Aa,Ab,h9]⟩
 | n + 1,j,t,S,hj,h2,h3,h5,h6,h7,h8,h9,h19=>by
  refine D2 (Ds ?_)
  have hj4:j < 4:=by omega
  have hjt:j < ts.length:=by rw [hT.1]; omega
  have hjg:j < gs.length:=by rw [hG.1]; omega
  have hlt:((j:Int) < 4):=by omega
  have hw:IntKind.i64.wrap ((j:Int) + 1)=((j + 1:Nat):Int):=by rw [IntKind.wrap_i64]; omega
  obtain ⟨x,a1,a2,a3⟩:=hT.2 j hjt
  obtain ⟨y,b1,b2,b3⟩:=hG.2 j hjg
  have a2:=a2 S
  have b2:=b2 S
  have lt0:(ts.take j).length=j:=by rw [List.length_take]; omega
  have lg0:(gs.take j).length=j:=by rw [List.length_take]; omega
  have n7:=sP (ts.take j) 0 ts[j]
  have n8:=oR (gs.take j) 0 gs[j]
  have n9:=nJ (ts.take j) (gs.take j) ts[j] gs[j] (by rw [lt0,lg0])
  rw [← List.take_succ_eq_append_getElem hjt,lt0,Nat.zero_add] at n7
  rw [← List.take_succ_eq_append_getElem hjg,lg0,Nat.zero_add] at n8
  rw [← List.take_succ_eq_append_getElem hjt,← List.take_succ_eq_append_getElem hjg] at n9
  have tyi:=tyIx_inj ts[j] gs[j]
  have w1:=ix69w ts[j]
  have w2:=ix69n gs[j]
  have lX:=bD (ts.take j) 0
  have lY:=Ya (gs.take j) 0
  rw [lt0] at lX
  rw [lg0] at lY
  generalize Wu 0 (ts.take j)=X at h7 n7 lX
  generalize Qt 0 (gs.take j)=Y at h8 n8 lY
  generalize hsn7:Wu 0 (ts.take (j + 1))=X2 at n7
  generalize hsn8:Qt 0 (gs.take (j + 1))=Y2 at n8
  generalize hsn9:O7 (ts.take (j + 1)) (gs.take (j + 1))=q2 at n9
  generalize ts[j]=ty at a3 n7 n9 tyi w1
  generalize gs[j]=gy at b3 n8 n9 tyi w2
  have lw:=pW ty
  have ln:=rS gy
  have l1:Ci Tryz.prog S 9 (.ep [Bq (I5 ty)])=some (.v (.string ⟨⟨I5 ty⟩⟩)):=ld9ep S (Bq (I5 ty)) []
  have l2:Ci Tryz.prog S 9 (.ep [Bq (G4 gy)])=some (.v (.string ⟨⟨G4 gy⟩⟩)):=ld9ep S (Bq (G4 gy)) []
  have c42:=Cr [112] [K5 j] (by simp only [List.length_cons,List.length_nil]; omega)
  have c43:=Cr ([112] ++ [K5 j]) [58,32] (by simp only [List.length_append,List.length_cons,List.length_nil]; omega)
  have c48:=Cr (([112] ++ [K5 j]) ++ [58,32]) (I5 ty) (by simp only [List.length_append,List.length_cons,List.length_nil]; omega)
  have hs77:=str77 j hj4
  have X7:t.get 7=some (.v (.string ⟨⟨X⟩⟩)):=h7
  have X8:t.get 8=some (.v (.string ⟨⟨Y⟩⟩)):=h8
  simp only [Dl] at h19
  by_cases hj0:j=0
  ·have e0:decide ((j:Int) > 0)=false:=by rw [decide_eq_false]; omega
   rw [if_pos hj0] at n7 n8
   cases he9:O7 (ts.take j) (gs.take j)
   ·have X9:t.get 9=some (.v (.bool false)):=by rw [h9,he9]
    have c49:=Cr X ((([112] ++ [K5 j]) ++ [58,32]) ++ I5 ty) (by simp only [List.length_append,List.length_cons,List.length_nil]; omega)
    have c55:=Cr Y (G4 gy) (by omega)
    simp only [Bz,Bp,A6,Cm,Bk,Bn,Bt,C9,A4,Ct,Bf,A7,Be,Bc,Ce,A5,Ba,A8,A0,ofOpt,A9,Bu,C3,Nat.reduceLT,Nat.reduceEqDiff,Aa,Ab,Ac,Am,Ap,Es,V8,Pi,Tryz.f8,h19,hlt]
    refine Fz [(0,true),(1,true),(2,true),(3,true),(4,true),(5,true),(6,true),(7,true),(8,true),(9,true)] (by kernel_rfl) (by kernel_rfl) ?_
    simp only [Bp,A6,Cm,Bk,Bn,A4,Bf,A7,Be,Bc,Cf,A5,Ba,A8,A0,ofOpt,A9,Bu,D1,Nat.reduceLT,Nat.reduceEqDiff,Aa,Ab,Ac,Af,Ag,Ah,Am,Es,Lr,Cw,h2,h3,a1,b1,Uh,W1,Zt,a2,b2,a3,b3,e0,X7,Eg,Dq,Cs,Cj,Dm,F9]
    refine Fz [(0,true),(1,true),(2,true),(3,true),(4,true),(5,true),(6,true),(7,true),(8,true),(9,true),(10,true),(11,true),(12,true),(13,true),(14,true)] (by kernel_rfl) (by kernel_rfl) ?_
    simp only [Bw,A6,Bk,A4,Br,Bf,A7,Cq,Be,Bc,A5,Ba,A8,A0,ofOpt,A9,Bv,Bu,Dd,Nat.reduceLT,Nat.reduceEqDiff,Aa,Ab,Ac,Af,Ag,Ah,Ai,Am,Ar,Av,Es,Lr,Cw,h5,h6,h19,X7,X8,X9,Sm,iV,cv35,row77,hs77,c42,c43,c48,w1,w2,l1,l2,hw,c49,c55,Eg,Dq,Cs,Cj,Dm,F9]
    refine yG hT hG n (j + 1) _ _ (by omega) ?_ ?_ ?_ ?_ ?_ ?_ ?_ ?_
    ·simp only [A0,A1,Nat.reduceEqDiff,Aa,Ab,h2]
    ·simp only [A0,A1,Nat.reduceEqDiff,Aa,Ab,h3]
    ·simp only [A0,A1,Nat.reduceEqDiff,Aa,Ab,h5]
    ·simp only [A0,A1,Nat.reduceEqDiff,Aa,Ab,h6]
    ·simp only [A0,A1,Nat.reduceEqDiff,Aa,Ab]; rw [hsn7,n7]; simp [Bq]
    ·simp only [A0,A1,Nat.reduceEqDiff,Aa,Ab]; rw [hsn8,n8]; simp [Bq]
    ·simp only [A0,A1,Nat.reduceEqDiff,Aa,Ab]; rw [hsn9,n9,he9]; simp
    ·simp only [A0,A1,Nat.reduceEqDiff,Aa,Ab]; rfl
   ·have X9:t.get 9=some (.v (.bool true)):=by rw [h9,he9]
    have c49:=Cr X ((([112] ++ [K5 j]) ++ [58,32]) ++ I5 ty) (by simp only [List.length_append,List.length_cons,List.length_nil]; omega)
    have c55:=Cr Y (G4 gy) (by omega)
    simp only [Bz,Bp,A6,Cm,Bk,Bn,Bt,C9,A4,Ct,Bf,A7,Be,Bc,Ce,A5,Ba,A8,A0,ofOpt,A9,Bu,C3,Nat.reduceLT,Nat.reduceEqDiff,Aa,Ab,Ac,Am,Ap,Es,V8,Pi,Tryz.f8,h19,hlt]
    refine Fz [(0,true),(1,true),(2,true),(3,true),(4,true),(5,true),(6,true),(7,true),(8,true),(9,true)] (by kernel_rfl) (by kernel_rfl) ?_
    simp only [Bp,A6,Cm,Bk,Bn,A4,Bf,A7,Be,Bc,Cf,A5,Ba,A8,A0,ofOpt,A9,Bu,D1,Nat.reduceLT,Nat.reduceEqDiff,Aa,Ab,Ac,Af,Ag,Ah,Am,Es,Lr,Cw,h2,h3,a1,b1,Uh,W1,Zt,a2,b2,a3,b3,e0,X7,Eg,Dq,Cs,Cj,Dm,F9]
    refine Fz [(0,true),(1,true),(2,true),(3,true),(4,true),(5,true),(6,true),(7,true),(8,true),(9,true),(10,true),(11,true),(12,true),(13,true),(14,true)] (by kernel_rfl) (by kernel_rfl) ?_
    simp only [Bw,A6,Bk,A4,Br,Bf,A7,Be,Bc,A5,Ba,A8,A0,ofOpt,A9,Bv,Bu,Dd,B9,Nat.reduceLT,Nat.reduceEqDiff,Aa,Ab,Ac,Af,Ag,Ah,Ai,Al,Am,Es,Lr,Cw,h5,h6,h19,X7,X8,X9,Sm,iV,cv35,row77,hs77,c42,c43,c48,w1,w2,l1,l2,tyi,hw,c49,c55,Eg,Dq,Cs,Cj,Dm,F9]
    refine yG hT hG n (j + 1) _ _ (by omega) ?_ ?_ ?_ ?_ ?_ ?_ ?_ ?_
    ·simp only [A0,A1,Nat.reduceEqDiff,Aa,Ab,h2]
    ·simp only [A0,A1,Nat.reduceEqDiff,Aa,Ab,h3]
    ·simp only [A0,A1,Nat.reduceEqDiff,Aa,Ab,h5]
    ·simp only [A0,A1,Nat.reduceEqDiff,Aa,Ab,h6]
    ·simp only [A0,A1,Nat.reduceEqDiff,Aa,Ab]; rw [hsn7,n7]; simp [Bq]
    ·simp only [A0,A1,Nat.reduceEqDiff,Aa,Ab]; rw [hsn8,n8]; simp [Bq]
    ·simp only [A0,A1,Nat.reduceEqDiff,Aa,Ab]; rw [hsn9,n9,he9]; simp
    ·simp only [A0,A1,Nat.reduceEqDiff,Aa,Ab]; rfl
  ·have e0:decide ((j:Int) > 0)=true:=by rw [decide_eq_true]; omega
   rw [if_neg hj0] at n7 n8
   cases he9:O7 (ts.take j) (gs.take j)
   ·have X9:t.get 9=some (.v (.bool false)):=by rw [h9,he9]
    have c7:=Cr X [44,32] (by simp only [List.length_cons,List.length_nil]; omega)
    have c8:=Cr Y [44,32] (by simp only [List.length_cons,List.length_nil]; omega)
    have c49:=Cr (X ++ [44,32]) ((([112] ++ [K5 j]) ++ [58,32]) ++ I5 ty) (by simp only [List.length_append,List.length_cons,List.length_nil]; omega)
    have c55:=Cr (Y ++ [44,32]) (G4 gy) (by simp only [List.length_append,List.length_cons,List.length_nil]; omega)
    simp only [Bz,Bp,A6,Cm,Bk,Bn,Bt,C9,A4,Ct,Bf,A7,Be,Bc,Ce,A5,Ba,A8,A0,ofOpt,A9,Bu,C3,Nat.reduceLT,Nat.reduceEqDiff,Aa,Ab,Ac,Am,Ap,Es,V8,Pi,Tryz.f8,h19,hlt]
    refine Fz [(0,true),(1,true),(2,true),(3,true),(4,true),(5,true),(6,true),(7,true),(8,true),(9,true)] (by kernel_rfl) (by kernel_rfl) ?_
    simp only [Bp,A6,Cm,Bk,Bn,A4,Bf,A7,Be,Bc,Ce,A5,Ba,A8,A0,ofOpt,A9,Bu,D1,Nat.reduceLT,Nat.reduceEqDiff,Aa,Ab,Ac,Af,Ag,Ah,Am,Es,Lr,Cw,h2,h3,a1,b1,Uh,W1,Zt,a2,b2,a3,b3,e0,X7,X8,c7,c8,Eg,Dq,Cs,Cj,Dm,F9]
    refine Fz [(0,true),(1,true),(2,true),(3,true),(4,true),(5,true),(6,true),(7,true),(8,true),(9,true),(10,true),(11,true),(12,true),(13,true),(14,true)] (by kernel_rfl) (by kernel_rfl) ?_
    simp only [Bw,A6,Bk,A4,Br,Bf,A7,Cq,Be,Bc,A5,Ba,A8,A0,ofOpt,A9,Bv,Bu,Dd,Nat.reduceLT,Nat.reduceEqDiff,Aa,Ab,Ac,Af,Ag,Ah,Ai,Am,Ar,Av,Es,Lr,Cw,h5,h6,h19,X7,X8,X9,Sm,iV,cv35,row77,hs77,c42,c43,c48,w1,w2,l1,l2,hw,c49,c55,Eg,Dq,Cs,Cj,Dm,F9]
    refine yG hT hG n (j + 1) _ _ (by omega) ?_ ?_ ?_ ?_ ?_ ?_ ?_ ?_
    ·simp only [A0,A1,Nat.reduceEqDiff,Aa,Ab,h2]
    ·simp only [A0,A1,Nat.reduceEqDiff,Aa,Ab,h3]
    ·simp only [A0,A1,Nat.reduceEqDiff,Aa,Ab,h5]
    ·simp only [A0,A1,Nat.reduceEqDiff,Aa,Ab,h6]
    ·simp only [A0,A1,Nat.reduceEqDiff,Aa,Ab]; rw [hsn7,n7]; simp [Bq]
    ·simp only [A0,A1,Nat.reduceEqDiff,Aa,Ab]; rw [hsn8,n8]; simp [Bq]
    ·simp only [A0,A1,Nat.reduceEqDiff,Aa,Ab]; rw [hsn9,n9,he9]; simp
    ·simp only [A0,A1,Nat.reduceEqDiff,Aa,Ab]; rfl
   ·have X9:t.get 9=some (.v (.bool true)):=by rw [h9,he9]
    have c7:=Cr X [44,32] (by simp only [List.length_cons,List.length_nil]; omega)
    have c8:=Cr Y [44,32] (by simp only [List.length_cons,List.length_nil]; omega)
    have c49:=Cr (X ++ [44,32]) ((([112] ++ [K5 j]) ++ [58,32]) ++ I5 ty) (by simp only [List.length_append,List.length_cons,List.length_nil]; omega)
    have c55:=Cr (Y ++ [44,32]) (G4 gy) (by simp only [List.length_append,List.length_cons,List.length_nil]; omega)
    simp only [Bz,Bp,A6,Cm,Bk,Bn,Bt,C9,A4,Ct,Bf,A7,Be,Bc,Ce,A5,Ba,A8,A0,ofOpt,A9,Bu,C3,Nat.reduceLT,Nat.reduceEqDiff,Aa,Ab,Ac,Am,Ap,Es,V8,Pi,Tryz.f8,h19,hlt]
    refine Fz [(0,true),(1,true),(2,true),(3,true),(4,true),(5,true),(6,true),(7,true),(8,true),(9,true)] (by kernel_rfl) (by kernel_rfl) ?_
    simp only [Bp,A6,Cm,Bk,Bn,A4,Bf,A7,Be,Bc,Ce,A5,Ba,A8,A0,ofOpt,A9,Bu,D1,Nat.reduceLT,Nat.reduceEqDiff,Aa,Ab,Ac,Af,Ag,Ah,Am,Es,Lr,Cw,h2,h3,a1,b1,Uh,W1,Zt,a2,b2,a3,b3,e0,X7,X8,c7,c8,Eg,Dq,Cs,Cj,Dm,F9]
    refine Fz [(0,true),(1,true),(2,true),(3,true),(4,true),(5,true),(6,true),(7,true),(8,true),(9,true),(10,true),(11,true),(12,true),(13,true),(14,true)] (by kernel_rfl) (by kernel_rfl) ?_
    simp only [Bw,A6,Bk,A4,Br,Bf,A7,Be,Bc,A5,Ba,A8,A0,ofOpt,A9,Bv,Bu,Dd,B9,Nat.reduceLT,Nat.reduceEqDiff,Aa,Ab,Ac,Af,Ag,Ah,Ai,Al,Am,Es,Lr,Cw,h5,h6,h19,X7,X8,X9,Sm,iV,cv35,row77,hs77,c42,c43,c48,w1,w2,l1,l2,tyi,hw,c49,c55,Eg,Dq,Cs,Cj,Dm,F9]
    refine yG hT hG n (j + 1) _ _ (by omega) ?_ ?_ ?_ ?_ ?_ ?_ ?_ ?_
    ·simp only [A0,A1,Nat.reduceEqDiff,Aa,Ab,h2]
    ·simp only [A0,A1,Nat.reduceEqDiff,Aa,Ab,h3]
    ·simp only [A0,A1,Nat.reduceEqDiff,Aa,Ab,h5]
    ·simp only [A0,A1,Nat.reduceEqDiff,Aa,Ab,h6]
    ·simp only [A0,A1,Nat.reduceEqDiff,Aa,Ab]; rw [hsn7,n7]; simp [Bq]
    ·simp only [A0,A1,Nat.reduceEqDiff,Aa,Ab]; rw [hsn8,n8]; simp [Bq]
    ·simp only [A0,A1,Nat.reduceEqDiff,Aa,Ab]; rw [hsn9,n9,he9]; simp
    ·simp only [A0,A1,Nat.reduceEqDiff,Aa,Ab]; rfl
def EndsTc (r:O):Prop:=∃ f' S',r=.out .ret ⟨f',[]⟩ S' ∧ f'.get 4=some (.v (.bool true))
theorem tc_tail (ts gs:List Ty) (ht:ts.length=4) (hg:gs.length=4) (t:T AV) (S:St) (h7:t.get 7=some (Bq (Wu 0 ts))) (h8:t.get 8=some (Bq (Qt 0 gs))) (h9:t.get 9=some (.v (.bool (O7 ts gs)))):W E9 84 tcTail ⟨t,[]⟩ S EndsTc:=by
 obtain ⟨fn1,hf19⟩:=fng_19
 obtain ⟨fn3,hf29⟩:=fng_29
 have hC:=checkTc ts gs ht hg
 obtain ⟨us,ms,hu,hread,hlike⟩:=yD ts gs ht hg
 have hlen:=jM ts gs ht hg
 have lX:=bD ts 0
 have lY:=Ya gs 0
 rw [ht] at lX
 rw [hg] at lY
 have l1:Rv.length ≤ 200:=by decide
 have l2:Wp.length ≤ 200:=by decide
 have l3:Wm.length ≤ 200:=by decide
 have htx:((((Rv ++ Qt 0 gs) ++ Wp) ++ Wu 0 ts) ++ Wm)=Sw ts gs:=rfl
 simp only [Bq] at h7 h8
 generalize Wu 0 ts=X at h7 lX htx
 generalize Qt 0 gs=Y at h8 lY htx
 have c1:Ei .add (.v (.string ⟨(List.append [110,111,100,101,32,102,40,97,58,32,105,110,116,44,32,98,58,32,98,111,111,108,41,32,114,101,116,117,114,110,115,32,40,121,58,32,105,110,116,41,32,118,97,114,32,117,58,32,102,117,116,117,114,101,32,105,110,116,59] [32,118,58,32,102,117,116,117,114,101,32,98,111,111,108,59,32,108,101,116,32,117,32,61,32,97,115,121,110,99,32,103,40,97,41,59,32,118,32,61,32,97,115,121,110,99,32,104,40,98,41,59,32,121,32,61,32,107,40]).toArray⟩)) (.v (.string ⟨⟨Y⟩⟩))=some (.v (.string ⟨⟨Rv ++ Y⟩⟩)):=Cr Rv Y (by omega)
 have c2:Ei .add (.v (.string ⟨⟨Rv ++ Y⟩⟩)) (.v (.string ⟨(List.append [41,59,32,116,101,108,32,110,111,100,101,32,103,40,97,58,32,105,110,116,41,32,114,101,116,117,114,110,115,32,40,99,58,32,105,110,116,41,32,108,101,116,32,99,32,61,32,97,59,32,116,101,108,32,110] [111,100,101,32,104,40,97,58,32,98,111,111,108,41,32,114,101,116,117,114,110,115,32,40,99,58,32,98,111,111,108,41,32,108,101,116,32,99,32,61,32,97,59,32,116,101,108,32,110,111,100,101,32,107,40]).toArray⟩))=some (.v (.string ⟨⟨(Rv ++ Y) ++ Wp⟩⟩)):=Cr (Rv ++ Y) Wp (by simp only [List.length_append]; omega)
 have c3:=Cr ((Rv ++ Y) ++ Wp) X (by simp only [List.length_append]; omega)
 have c4:Ei .add (.v (.string ⟨⟨((Rv ++ Y) ++ Wp) ++ X⟩⟩)) (.v (.string ⟨⟨[41,32,114,101,116,117,114,110,115,32,40,121,58,32,105,110,116,41,32,108,101,116,32,121,32,61,32,49,59,32,116,101,108]⟩⟩))=some (.v (.string ⟨⟨(((Rv ++ Y) ++ Wp) ++ X) ++ Wm⟩⟩)):=Cr (((Rv ++ Y) ++ Wp) ++ X) Wm (by simp only [List.length_append]; omega)
 simp only [A6,Bk,A7,Be,B3,Bc,A5,Ba,A8,A0,Bo,B5,ofOpt,A9,Nat.reduceLT,Nat.reduceEqDiff,Aa,Ab,Ac,Aj,Ak,Am,Es,Cw,tcTail,Pi,Tryz.f8,h7,h8,c1,c2,c3,c4,hf19]
 rw [htx]
 refine i9_19 _ _ _ ?_
 have hpc:L9 [.v (.string ⟨⟨Sw ts gs⟩⟩)] S=L9 [Bq (Sw ts gs)] S:=rfl
 rw [hpc]
 rcases iE (l:=Sw ts gs) (by omega) hu S with ⟨ns2,v,hr2,hp2,hi2⟩ | ⟨q,hr2,hp2⟩
 ·have he:ns2=ms:=by rw [hread] at hr2; injection hr2 with hr2; injection hr2 with hr2; exact hr2.symm
  subst he
  rw [hp2]
  have q1:=Qe (Cu S (Dh 0 0)) rfl (rfl:(Dh 0 0).length=2)
  have q2:=Il (S.newBox (Dh 0 0)) S.next (Dh 0 0) rfl
  generalize hS4:(S.newBox (Dh 0 0)).put S.next (Dh 0 0)=S4 at q1 q2
  simp only [A6,Bk,A4,Bf,A7,Be,De,B3,Dr,Bc,Co,A5,Ba,A8,A0,Bo,B5,ofOpt,ofOptS,Bv,Nat.reduceLT,Nat.reduceEqDiff,Aa,Ab,Ac,Af,Ag,Ah,Ai,Aj,Ak,Al,Am,Es,Lr,nn33,fbe33,q1,q2,Oi,bd33,Cp,eq7ez,hf29]
  refine WC.mono (hC ns2 v S4 hlike hi2) ?_
  rintro _ ⟨a,e,S5,rfl,hfit⟩
  have e33:=fun f S o=>eq7e f S o a e
  rw [hfit] at e33
  generalize O7 ts gs=ft at h9 e33
  cases ft
  all_goals
   simp only [B0,A4,Bf,A7,Be,Bc,Co,A5,Ba,A8,A0,ofOpt,Bv,Nat.reduceLT,Nat.reduceEqDiff,Aa,Ab,Ac,Af,Ag,Ah,Ai,Al,Am,Es,Lr,nn33,fbe33,h9,bd33,e33,Bool.true_and,Ln,Ni,Mc,K6]
   exact ⟨_,_,rfl,by simp only [A0,Nat.reduceEqDiff,Ab,Aa]; try rfl⟩
 ·rw [hread] at hr2; injection hr2 with hr2; cases hr2
theorem tc_rest {xs ys:List AV} {ts gs:List Ty} (hT:Four xs ts) (hG:Four ys gs) (t:T AV) (S:St) (h2:t.get 2=some (.ep xs)) (h3:t.get 3=some (.ep ys)):W E9 84 Pi ⟨t,[]⟩ S EndsTc:=by
 rw [tcRest_is]
 have rw1:=row69w
 have rw2:=row69n
 have key:=fun t S=>yG hT hG 4 0 t S (by omega)
 have tail:=fun t S h7 h8 h9=>tc_tail ts gs hT.1 hG.1 t S h7 h8 h9
 simp only [A6,Bk,Bt,D0,A4,Bf,A7,Be,Bc,A5,Ba,A8,A0,ofOpt,A9,Bv,Nat.reduceLT,Nat.reduceEqDiff,Aa,Ab,Ac,Es,tcR,Pi,Tryz.f8,rw1,rw2]
 refine WX.mono (key _ _ ?_ ?_ ?_ ?_ ?_ ?_ ?_ ?_) ?_
 ·simp only [A0,A1,Nat.reduceEqDiff,Aa,Ab,h2]
 ·simp only [A0,A1,Nat.reduceEqDiff,Aa,Ab,h3]
 ·simp only [A0,A1,Nat.reduceEqDiff,Aa,Ab]
 ·simp only [A0,A1,Nat.reduceEqDiff,Aa,Ab]
 ·simp only [A0,A1,Nat.reduceEqDiff,Aa,Ab]; rfl
 ·simp only [A0,A1,Nat.reduceEqDiff,Aa,Ab]; rfl
 ·simp only [A0,A1,Nat.reduceEqDiff,Aa,Ab]; rfl
 ·simp only [A0,A1,Nat.reduceEqDiff,Aa,Ab]; rfl
 rintro _ ⟨t',S',rfl,g7,g8,g9⟩
 simp only [A4,Ct,Dy,Aa]
 exact tail _ _ g7 g8 g9
end Go.Ax
noncomputable section
namespace Go.Ax
open Go.RowKit Go.Proofs
set_option maxRecDepth 100000
end Go.Ax
noncomputable section
namespace Go.Ax
open Go.RowKit Go.Proofs
set_option maxRecDepth 100000
def puI0 (args:List AV):Option AV:=match args with
 | [.v (.string s),.v (.int .i64 10),.v (.int .i64 64)]=>if s.data.toList ≠ [] ∧ s.data.toList.all Yf=true ∧ Ji 0 s.data.toList < 18446744073709551616 ∧ s.size ≤ 9223372036854775806 then some (.tup [.v (.int .u64 (Ji 0 s.data.toList)),.v .nilIface]) else none
 | _=>none
def E0:Env:={ P:=Tryz.prog,G:=fun _=>none,F:=E1.F,I:=fun k=>Bool.rec (Bool.rec none (some (Vw 6)) (Nat.beq k 94)) (some (Gy puI0)) (Nat.beq k 133),M:=rowM }
theorem e0_ok:E0.Ok:=⟨fun k fn h=>Sq.fn k fn h⟩
theorem e0_mix:E0.P.follows .mixedOrders=true:=Td
theorem puI0_ok:∀ args a,puI0 args=some a → ∀ γ w (vs:List Value),VRL γ w args vs → Calls Tryz.prog 133 vs.toArray w fun e w'=>Below w.heap.size w w' ∧ ∃ v,e=.returned v ∧ ∀ γ w,VR γ w a v:=by
 intro args a h γ w vs hv
 unfold puI0 at h
 split at h
 ·rename_i s
  split at h
  ·rename_i hc
   obtain ⟨h0,h1,h2,h3⟩:=hc
   injection h with h; subst h
   obtain ⟨x,y,z,rfl,hx,hy,hz⟩:=hv.three
   cases hx; cases hy; cases hz
   refine (Tryz.strconv_ParseUint_10_at64_ok s h3 _ (zT h0 h1 h2) w).mono fun e w' he=>⟨?_,_,he.1,fun γ w=>?_⟩
   ·rcases he.2 with rfl | rfl
    ·exact .refl _ _
    ·exact Lib.bytesWorld_below _ _ _
   ·exact .tup _ _ rfl (fun k hk hk'=>by
     match k,hk with
     | 0,_=>exact .v _ rfl
     | 1,_=>exact .v _ rfl)
  ·cases h
 ·cases h
theorem e0_intr:Le E0:=fun k g hk base w0 args S hne γ w vs hS hg hv=>by
 have hk2:(Bool.rec (Bool.rec none (some (Vw 6)) (Nat.beq k 94)) (some (Gy puI0)) (Nat.beq k 133):Option (List AV → St → R))=some g:=hk
 cases hb:Nat.beq k 133 with
 | false =>
  rw [hb] at hk2
  cases hc:Nat.beq k 94 with
  | false=>rw [hc] at hk2; cases hk2
  | true =>
   rw [hc] at hk2
   injection hk2 with hk2; subst hk2
   have:k=94:=Nat.eq_of_beq_eq_true hc
   subst this
   exact grow_I base w0 args S hne γ w vs hS hv
 | true =>
  rw [hb] at hk2
  injection hk2 with hk2; subst hk2
  have:k=133:=Nat.eq_of_beq_eq_true hb
  subst this
  exact plainI_ok (P:=Tryz.prog) (k:=133) puI0_ok base w0 args S hne γ w vs hS hv
def PowIn (w:World):Prop:=Lib.TabIs Tryz.prog w "internal/strconv.uint64pow10" .u64 Lib.pow10Tab
theorem PowIn.gr {w:World} (h:PowIn w):GR (GhW w) w gF:=by
 unfold PowIn Lib.TabIs World.var? at h
 rw [gPow6] at h
 simp only [Ai] at h
 split at h
 ·rename_i arr T fr ha
  injection h with h
  have hsz:arr.size=20:=by rw [h]; simp [Lib.pow10Tab_length]
  intro g cs hg
  unfold gF at hg
  cases hb:Nat.beq g 0 with
  | false=>rw [hb] at hg; cases hg
  | true =>
   have:g=0:=Nat.eq_of_beq_eq_true hb
   subst this
   rw [hb] at hg
   injection hg with hg; subst hg
   have hcell:∀ k,k < Yd.length → w.cell? ⟨0,0 + k,none⟩=some (arr.getD k undef):=fun k hk=>by
    rw [Tx] at hk
    rw [Nat.zero_add,Lk ha,Array.getElem?_eq_getElem (by omega)]
    simp [Array.getD,show k < arr.size by omega]
   refine ⟨.ep Yd 0 0 (fun k=>arr.getD k undef) (fun k hk=>⟨⟨World.block_lt_of_cell? w _ (hcell k hk),_,hcell k hk⟩,hcell k hk⟩) (fun x hx=>?_) (fun k hk=>?_),fun _=>⟨arr,T,fr,ha,by rw [hsz,Tx]⟩⟩
   ·unfold Yd at hx
    obtain ⟨z,_,rfl⟩:=List.mem_map.1 hx
    rfl
   ·have hk2:=hk
    rw [Tx] at hk2
    have e:arr.getD k undef=.int .u64 (Lib.pow10Tab[k]'(by rw [Lib.pow10Tab_length]; omega)):=by
     rw [h]
     simp [Array.getD,Lib.pow10Tab_length,hk2]
    have e3:Yd[k]=.v (.int .u64 (Lib.pow10Tab[k]'(by rw [Lib.pow10Tab_length]; omega))):=by simp [Yd]
    rw [e]
    have key:∀ a:AV,a=.v (.int .u64 (Lib.pow10Tab[k]'(by rw [Lib.pow10Tab_length]; omega))) → VR (GhW w) w a (.int .u64 (Lib.pow10Tab[k]'(by rw [Lib.pow10Tab_length]; omega))):=fun a h=>h ▸ .v _ rfl
    exact key _ e3
 ·cases h
theorem g7_of {w:World} (h1:RngIn w) (h2:PowIn w):GR (GhW w) w G7:=by
 intro g cs hg
 have hg':=hg
 unfold G7 at hg
 cases hb:Nat.beq g 0 with
 | true =>
  have:g=0:=Nat.eq_of_beq_eq_true hb
  subst this
  exact h2.gr 0 cs hg'
 | false =>
  rw [hb] at hg
  exact h1.gr g cs hg
theorem u9b:Tryz.prog.underlying 9=some .string:=by kernel_rfl
end Go.Ax
noncomputable section
namespace Go.Ax
open Go.RowKit Go.Proofs
set_option maxRecDepth 100000
open Go.WideShapes
theorem aw_awake (w:World):Calls Tryz.prog 26 #[] w fun e w'=>e=.returned (.bool true) ∧ Below w.heap.size w w' :=
 gM (E:=E0) e0_ok e0_intr e0_mix rfl (m:=2000) (k:=26) (args:=[]) (by kernel_rfl) (by kernel_rfl) (vs:=[]) ⟨rfl,fun k hk=>by cases hk⟩
end Go.Ax
noncomputable section
namespace Go.Ax
open Go.RowKit Go.Proofs
set_option maxRecDepth 100000
theorem ep4 {w1:World} {b:Nat} {a0 a1 a2 a3:Int} (hc:∀ j,w1.cell? ⟨b,0 + j,none⟩=#[Value.int .i64 a0,.int .i64 a1,.int .i64 a2,.int .i64 a3][j]?) (hlt:b < w1.heap.size):VR (GhW w1) w1 (.ep [.v (.int .i64 a0),.v (.int .i64 a1),.v (.int .i64 a2),.v (.int .i64 a3)]) (.pointer (some ⟨b,0,none⟩)):=by
 refine .ep _ b 0 (fun j=>[Value.int .i64 a0,.int .i64 a1,.int .i64 a2,.int .i64 a3].getD j undef) (fun j hj=>?_) (fun c hc=>?_) (fun j hj=>?_)
 ·have h4:j < 4:=hj
  have e:w1.cell? ⟨b,0 + j,none⟩=some ([Value.int .i64 a0,.int .i64 a1,.int .i64 a2,.int .i64 a3].getD j undef):=by
   rw [hc j]
   match j,h4 with
   | 0,_=>rfl
   | 1,_=>rfl
   | 2,_=>rfl
   | 3,_=>rfl
  exact ⟨⟨hlt,_,e⟩,e⟩
 ·simp only [List.mem_cons,List.not_mem_nil,or_false] at hc
  rcases hc with rfl | rfl | rfl | rfl <;> rfl
 ·have h4:j < 4:=hj
  match j,h4 with
  | 0,_=>exact .v _ rfl
  | 1,_=>exact .v _ rfl
  | 2,_=>exact .v _ rfl
  | 3,_=>exact .v _ rfl
theorem tc_any (x0 x1 x2 x3 y0 y1 y2 y3:Int) (w:World) (hr:RngIn w) (hp:PowIn w):Calls Tryz.prog 8 #[.agg #[Value.int .i64 x0,.int .i64 x1,.int .i64 x2,.int .i64 x3],.agg #[Value.int .i64 y0,.int .i64 y1,.int .i64 y2,.int .i64 y3]] w fun x w'=>x=.returned (.bool true) ∧ Below w.heap.size w w':=by
 have HG:=Lib.hid (g7_of hr hp); clear hr hp
 go_enter Tryz.func8,Tryz.ntmps8
 refine wp_seq_k fun K0 h0=>?_
 have H0:=Lib.hid h0; clear h0
 go_wp2_with fail
 refine H0.out _ _ ?_
 clear H0 K0
 refine wp_seq_k fun K1 h1=>?_
 have H1:=Lib.hid h1; clear h1
 go_wp2_with fail
 refine (aw_awake _).mono ?_
 rintro x w1 ⟨rfl,hb1⟩
 go_wp2_with fail
 refine H1.out _ _ ?_
 clear H1 K1
 obtain ⟨ts,hT⟩:=four_any x0 x1 x2 x3
 obtain ⟨gs,hG⟩:=four_any y0 y1 y2 y3
 have b0:Below w.heap.size w (w.alloc (Obj.cells #[Value.int .i64 x0,.int .i64 x1,.int .i64 x2,.int .i64 x3] 76)):=(Below.refl _ _).alloc (Nat.le_refl _) _
 have e1:∀ j,(w.alloc (Obj.cells #[Value.int .i64 x0,.int .i64 x1,.int .i64 x2,.int .i64 x3] 76)).cell? ⟨w.heap.size,j,none⟩=#[Value.int .i64 x0,.int .i64 x1,.int .i64 x2,.int .i64 x3][j]?:=fun j=>World.cell?_alloc_new w _ 76 j
 have s1:(w.alloc (Obj.cells #[Value.int .i64 x0,.int .i64 x1,.int .i64 x2,.int .i64 x3] 76)).heap.size=w.heap.size + 1:=by show (w.heap.push _).size=_; simp
 generalize w.alloc (Obj.cells #[Value.int .i64 x0,.int .i64 x1,.int .i64 x2,.int .i64 x3] 76)=wa at *
 have b2:Below wa.heap.size wa (wa.alloc (Obj.cells #[Value.int .i64 y0,.int .i64 y1,.int .i64 y2,.int .i64 y3] 76)):=(Below.refl _ _).alloc (Nat.le_refl _) _
 have e2:∀ j,(wa.alloc (Obj.cells #[Value.int .i64 y0,.int .i64 y1,.int .i64 y2,.int .i64 y3] 76)).cell? ⟨wa.heap.size,j,none⟩=#[Value.int .i64 y0,.int .i64 y1,.int .i64 y2,.int .i64 y3][j]?:=fun j=>World.cell?_alloc_new wa _ 76 j
 have s2:(wa.alloc (Obj.cells #[Value.int .i64 y0,.int .i64 y1,.int .i64 y2,.int .i64 y3] 76)).heap.size=wa.heap.size + 1:=by show (wa.heap.push _).size=_; simp
 generalize wa.alloc (Obj.cells #[Value.int .i64 y0,.int .i64 y1,.int .i64 y2,.int .i64 y3] 76)=wb at *
 have hc1:∀ j,w1.cell? ⟨w.heap.size,0 + j,none⟩=#[Value.int .i64 x0,.int .i64 x1,.int .i64 x2,.int .i64 x3][j]?:=fun j=>by
  rw [hb1.cell (p:=⟨w.heap.size,0 + j,none⟩) (by show w.heap.size < wb.heap.size; omega),b2.cell (p:=⟨w.heap.size,0 + j,none⟩) (by show w.heap.size < wa.heap.size; omega),Nat.zero_add]
  exact e1 j
 have hc2:∀ j,w1.cell? ⟨wa.heap.size,0 + j,none⟩=#[Value.int .i64 y0,.int .i64 y1,.int .i64 y2,.int .i64 y3][j]?:=fun j=>by
  rw [hb1.cell (p:=⟨wa.heap.size,0 + j,none⟩) (by show wa.heap.size < wb.heap.size; omega),Nat.zero_add]
  exact e2 j
 have hsz1:=hb1.size
 have hb:Below w.heap.size w w1:=(b0.trans (b2.mono (by omega))).trans (hb1.mono (by omega))
 have hv1:=ep4 hc1 (by omega)
 have hv2:=ep4 hc2 (by omega)
 rw [s1] at hv2
 have hg:GR (GhW w1) w1 G7:=HG.out.mono (Ug hb)
 have hW:=tc_rest hT hG ((T.leaf.set 2 (some (.ep [.v (.int .i64 x0),.v (.int .i64 x1),.v (.int .i64 x2),.v (.int .i64 x3)]))).set 3 (some (.ep [.v (.int .i64 y0),.v (.int .i64 y1),.v (.int .i64 y2),.v (.int .i64 y3)]))) St0 (by rw [T.get_set,if_neg (by decide),T.get_set,if_pos rfl]) (by rw [T.get_set,if_pos rfl])
 refine codeWG (c:=Pi) (E:=E9) e9_ok e9_intr e9_mix (t:=4) hW (SR.whole w1) hg ?_ rfl rfl ?_
 ·intro t a h
  rw [T.get_set,T.get_set] at h
  split at h
  ·rename_i e; subst e
   injection h with h; subst h
   exact ⟨(show 3 < 84 by decide),hv2⟩
  ·split at h
   ·rename_i e; subst e
    injection h with h; subst h
    exact ⟨(show 2 < 84 by decide),hv1⟩
   ·cases h
 intro act' w' hsz hd ht hb3
 refine ⟨hd,.bool true,?_,rfl,hb.trans (hb3.mono (by omega))⟩
 have h4:act'.tmps.getD 4 undef=.bool true:=by simp [Array.getD_eq_getD_getElem?,ht]
 simp [results,Tryz.f8,h4,go_sem,ht]
theorem u76:Tryz.prog.underlying 76=some (.array 4 3):=by kernel_rfl
theorem cz76:Tryz.prog.cellsOf 76=4:=by kernel_rfl
theorem cz3v:Tryz.prog.cellsOf 3=1:=by kernel_rfl
theorem trod_arr4 {H:Type} {enc:TypeId × Value → H} {w:World} {fuel:Nat} {cs:List Value} {x:DataW H × List MemPlace} (h:DataW.trod enc Tryz.prog w 0 (fun _=>true) true fuel 76 cs=some x):∃ a b c d:Int,cs=[.int .i64 a,.int .i64 b,.int .i64 c,.int .i64 d]:=by
 obtain ⟨xs,n,hfu,_,hlen,hx,hg⟩:=DataW.trod_array u76 h
 rw [cz76] at hlen
 obtain ⟨c0,c1,c2,c3,rfl⟩:∃ c0 c1 c2 c3,cs=[c0,c1,c2,c3]:=by
  match cs,hlen with
  | [c0,c1,c2,c3],_=>exact ⟨_,_,_,_,rfl⟩
 have g0:=hg 0 (by decide)
 have g1:=hg 1 (by decide)
 have g2:=hg 2 (by decide)
 have g3:=hg 3 (by decide)
 rw [List.getElem?_eq_getElem (by omega)] at g0 g1 g2 g3
 rw [cz3v] at g0 g1 g2 g3
 obtain ⟨a,h0,_⟩:=DataW.trod_int Tryz.underlying3 g0
 obtain ⟨b,h1,_⟩:=DataW.trod_int Tryz.underlying3 g1
 obtain ⟨c,h2,_⟩:=DataW.trod_int Tryz.underlying3 g2
 obtain ⟨d,h3,_⟩:=DataW.trod_int Tryz.underlying3 g3
 simp at h0 h1 h2 h3
 subst h0 h1 h2 h3
 exact ⟨a,b,c,d,rfl⟩
theorem okWide_arr4 {W:World} {base:Nat} {v:Value} (h:Value.okWide Tryz.prog W .any base 76 v):∃ cs,v=.agg cs:=by
 simp only [Value.okWide,u76] at h
 obtain ⟨cs,h1,_⟩:=h
 exact ⟨cs,h1⟩
end Go.Ax
