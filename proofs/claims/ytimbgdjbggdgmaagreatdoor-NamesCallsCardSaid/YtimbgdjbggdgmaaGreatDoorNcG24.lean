/- ZyLa -/
import Derived.Test.YtimbgdjbggdgmaaGreatDoorNcG21
import Derived.Test.YtimbgdjbggdgmaaGreatDoorNcG19
import Derived.Test.YtimbgdjbggdgmaaGreatDoorNcG23
import Derived.Test.YtimbgdjbggdgmaaGreatDoorNcG22
set_option linter.unusedVariables false
set_option linter.unusedSimpArgs false
set_option maxHeartbeats 16000000
noncomputable section
open Nat (reduceLT reduceAdd reduceEqDiff reduceLeDiff)
namespace Go.Ax
open Go.RowKit Go.Proofs
set_option maxRecDepth 100000
theorem unary_k{ts:List Tk}(ht:Tok3 ts)(i:Nat)(p:Int)(hi:i<ts.length)(hP:Kn3 ts 286 [stA ts i 0 p])(hro:∀i' p,i'<ts.length→i<i'→Kn3 ts 250 [stA ts i' 0 p,.v (.int .i64 ((5:Nat):Int))]):Kn3 ts 271 [stA ts i 0 p]:=by
 refine Jq Tryz.f271 (by kernel_rfl) (by kernel_rfl) (by show(_:Nat)≤_;simp[Tryz.f271]) ?_
 have hsz:=ht.size;have hx:=Ld ts i hi;obtain⟨fn1,hf1⟩:=fX 118;obtain⟨fn2,hf2⟩:=fX 270;obtain⟨fn3,hf3⟩:=fX 250;obtain⟨fn4,hf4⟩:=fX 286;have h0:((0:Int) != 0)=false:=rfl;simp(maxSteps:=9^7) (disch:=omega)only[go_sem,reduceAdd,reduceEqDiff,reduceLeDiff,Tryz.f271,stA,stL,tkL,A2,hx,hf1];refine Ey (w:=[45]) hi ?_
 cases hb:isB ts i 0 [45]with
 |true =>
  have hw:=(Dy hb).2;have hn:=hw.next ht hi;have hw2:=Fl i (by omega)
  have hx1:=Ld ts (i+1) hn;have hnp:(tk ts i).text ∉ [[112,114,101]]:=by rw[hw.2];decide
  have hb2:isB ts i 0 [112,114,101]=false:=by
   unfold isB;rw[decide_eq_false];rintro⟨_,_,h⟩;rw[hw.2]at h;exact absurd h (by decide)
  have tail:∀(hbl:F3 ts i=false),True:=fun _=>trivial
  by_cases hk:(tk ts (i+1)).kind=2
  ·have hk2:(((tk ts (i+1)).kind:Int) == 2)=true:=by rw[hk];rfl
   have hn2:=O2 ht hn (by omega)
   have hw3:=wrapS2 i (by omega)
   have hwp:=wrapP i (by omega)
   have hx2:=Ld ts (i+2) hn2
   cases hk3:(((tk ts (i+2)).kind:Int) == 3)with
   |true =>
    cases hk4:decide ((tk ts (i+2)).text=[119,104,101,110])with
    |true =>
     have hbl:F3 ts i=false:=by
      unfold F3;rw[hk4];simp
     simp(maxSteps:=9^7) (disch:=omega)only[go_sem,reduceAdd,reduceEqDiff,reduceLeDiff,tkL,A2,hx1,hx2,hf1,hk2,hk3,hk4,hw2,hw3,G7];refine Ey (w:=[112,114,101]) hi ?_;simp(maxSteps:=9^7) (disch:=omega)only[go_sem,reduceAdd,reduceEqDiff,reduceLeDiff,hf1,hb2];refine Ey (w:=[45]) hi ?_;simp(maxSteps:=9^7) (disch:=omega)only[go_sem,reduceAdd,reduceEqDiff,reduceLeDiff,hf3,hf4,hb,hw2];refine K0 (lv:=5) (by omega) hn (hro (i+1) p hn (by omega)) fun m e2 p2 y0 y1 y2 y3 y4 y5 hm hjm g2 h2=>?_
     have a0:=(Dh g2.2.1).1;have a1:=(Dh g2.2.1).2.1;have a2:=(Dh g2.2.1).2.2.1;have a3:=(Dh g2.2.1).2.2.2.1;have a4:=(Dh g2.2.1).2.2.2.2.1;have a5:=(Dh g2.2.1).2.2.2.2.2;simp(maxSteps:=9^7) (disch:=omega)only[go_sem,reduceAdd,reduceEqDiff,reduceLeDiff,stA,stL,A2,Bool.and_self];refine Dd [(0,true),(1,true),(2,true),(3,true),(4,true),(5,true),(6,true),(3,false),(7,true)] (by kernel_rfl) (by kernel_rfl) ?_
     simp(maxSteps:=9^7) (disch:=omega)only[go_sem,reduceAdd,reduceEqDiff,reduceLeDiff,A2,a0,a1,a2,a3,a4,a5,Bool.and_self];refine Y4 (Pa ts) _ m e2 p2 4 (tk ts i).pos [] false _ _ _ hm (by omega) (Ed g2 En) (fun h=>?_)
     obtain⟨_,y,hy,hry⟩:=h2 h;exact⟨rfl,_,.cons _ _ _ _ hry .nil,rd_neg hnp hbl (by rw[hw.2];simp) hy⟩
    |false =>
     have hbl:F3 ts i=true:=by
      unfold F3;rw[hk4,hw.2,hk];rfl
     simp(maxSteps:=9^7) (disch:=omega)only[go_sem,reduceAdd,reduceEqDiff,reduceLeDiff,tkL,A2,hx1,hx2,hf1,hk2,hk3,hk4,hw2,hw3,G7];refine Dd [(0,true),(1,true),(2,true),(3,true),(4,true),(5,true),(6,true),(7,true),(8,true),(9,true),(10,true),(11,true),(12,true),(13,true)] (by kernel_rfl) (by kernel_rfl) ?_
     simp(maxSteps:=9^7) (disch:=omega)only[go_sem,reduceAdd,reduceEqDiff,reduceLeDiff,tkL,A2,hx1,hf2,hwp];refine Wm (at_:=(tk ts i).pos) (bl:=true) hn2 fun e' p' x0 x1 x2 x3 x4 x5 f1 c1 b1 h1=>?_
     simp(maxSteps:=9^7) (disch:=omega)only[go_sem,reduceAdd,reduceEqDiff,reduceLeDiff,stA,stL,Bool.and_self];exact Ju (Pa ts) _ (i+2) e' p' hn2 (by omega) (Vk f1 c1 b1) (fun h=>⟨rfl,_,rd_bel hnp hbl (eE hi hn hw.2 hk) (by omega) (Qx _ _ _),(h1 h).2.2⟩)
   |false =>
    have hnw:decide ((tk ts (i+2)).text=[119,104,101,110])=false:=by
     rw[decide_eq_false];intro h;have:=ht.k3 (i+2) hn2 (by rw[h];decide)
     rw[this]at hk3;exact absurd hk3 (by decide)
    have hbl:F3 ts i=true:=by
     unfold F3;rw[hnw,hw.2,hk];rfl
    simp(maxSteps:=9^7) (disch:=omega)only[go_sem,reduceAdd,reduceEqDiff,reduceLeDiff,tkL,A2,hx1,hx2,hf1,hk2,hk3,hw2,hw3];refine Dd [(0,true),(1,true),(2,true),(3,true),(4,true),(5,true),(6,true),(7,true),(8,true),(9,true),(10,true),(11,true),(12,true),(13,true)] (by kernel_rfl) (by kernel_rfl) ?_
    simp(maxSteps:=9^7) (disch:=omega)only[go_sem,reduceAdd,reduceEqDiff,reduceLeDiff,tkL,A2,hx1,hf2,hwp];refine Wm (at_:=(tk ts i).pos) (bl:=true) hn2 fun e' p' x0 x1 x2 x3 x4 x5 f1 c1 b1 h1=>?_
    simp(maxSteps:=9^7) (disch:=omega)only[go_sem,reduceAdd,reduceEqDiff,reduceLeDiff,stA,stL,Bool.and_self];exact Ju (Pa ts) _ (i+2) e' p' hn2 (by omega) (Vk f1 c1 b1) (fun h=>⟨rfl,_,rd_bel hnp hbl (eE hi hn hw.2 hk) (by omega) (Qx _ _ _),(h1 h).2.2⟩)
  ·have hk2:(((tk ts (i+1)).kind:Int) == 2)=false:=by rw[beq_eq_false_iff_ne];omega
   have hbl:F3 ts i=false:=by
    unfold F3;rw[decide_eq_false hk];simp
   simp(maxSteps:=9^7) (disch:=omega)only[go_sem,reduceAdd,reduceEqDiff,reduceLeDiff,tkL,A2,hx1,hf1,hk2,hw2];refine Ey (w:=[112,114,101]) hi ?_;simp(maxSteps:=9^7) (disch:=omega)only[go_sem,reduceAdd,reduceEqDiff,reduceLeDiff,hf1,hb2];refine Ey (w:=[45]) hi ?_;simp(maxSteps:=9^7) (disch:=omega)only[go_sem,reduceAdd,reduceEqDiff,reduceLeDiff,hf3,hf4,hb,hw2];refine K0 (lv:=5) (by omega) hn (hro (i+1) p hn (by omega)) fun m e2 p2 y0 y1 y2 y3 y4 y5 hm hjm g2 h2=>?_
   have a0:=(Dh g2.2.1).1;have a1:=(Dh g2.2.1).2.1;have a2:=(Dh g2.2.1).2.2.1;have a3:=(Dh g2.2.1).2.2.2.1;have a4:=(Dh g2.2.1).2.2.2.2.1;have a5:=(Dh g2.2.1).2.2.2.2.2;simp(maxSteps:=9^7) (disch:=omega)only[go_sem,reduceAdd,reduceEqDiff,reduceLeDiff,stA,stL,A2,Bool.and_self];refine Dd [(0,true),(1,true),(2,true),(3,true),(4,true),(5,true),(6,true),(3,false),(7,true)] (by kernel_rfl) (by kernel_rfl) ?_
   simp(maxSteps:=9^7) (disch:=omega)only[go_sem,reduceAdd,reduceEqDiff,reduceLeDiff,A2,a0,a1,a2,a3,a4,a5,Bool.and_self];refine Y4 (Pa ts) _ m e2 p2 4 (tk ts i).pos [] false _ _ _ hm (by omega) (Ed g2 En) (fun h=>?_)
   obtain⟨_,y,hy,hry⟩:=h2 h;exact⟨rfl,_,.cons _ _ _ _ hry .nil,rd_neg hnp hbl (by rw[hw.2];simp) hy⟩
 |false =>
  have hn1:=G6 ht hi hb (by decide)
  simp(maxSteps:=9^7) (disch:=omega)only[go_sem,reduceAdd,reduceEqDiff,reduceLeDiff,hf1];refine Ey (w:=[112,114,101]) hi ?_
  cases hb2:isB ts i 0 [112,114,101]with
  |true =>
   have hw:=(Dy hb2).2;have hn:=hw.next ht hi;have hw2:=Fl i (by omega)
   simp(maxSteps:=9^7) (disch:=omega)only[go_sem,reduceAdd,reduceEqDiff,reduceLeDiff,hf1];refine Ey (w:=[45]) hi ?_;simp(maxSteps:=9^7) (disch:=omega)only[go_sem,reduceAdd,reduceEqDiff,reduceLeDiff,hf3,hf4,hb,hw2];refine K0 (lv:=5) (by omega) hn (hro (i+1) p hn (by omega)) fun m e2 p2 y0 y1 y2 y3 y4 y5 hm hjm g2 h2=>?_
   have a0:=(Dh g2.2.1).1;have a1:=(Dh g2.2.1).2.1;have a2:=(Dh g2.2.1).2.2.1;have a3:=(Dh g2.2.1).2.2.2.1;have a4:=(Dh g2.2.1).2.2.2.2.1;have a5:=(Dh g2.2.1).2.2.2.2.2;simp(maxSteps:=9^7) (disch:=omega)only[go_sem,reduceAdd,reduceEqDiff,reduceLeDiff,stA,stL,A2,Bool.and_self];refine Dd [(0,true),(1,true),(2,true),(3,true),(4,true),(5,true),(6,true),(3,false),(7,true)] (by kernel_rfl) (by kernel_rfl) ?_
   simp(maxSteps:=9^7) (disch:=omega)only[go_sem,reduceAdd,reduceEqDiff,reduceLeDiff,A2,a0,a1,a2,a3,a4,a5,Bool.and_self];refine Y4 (Pa ts) _ m e2 p2 10 (tk ts i).pos [] false _ _ _ hm (by omega) (Ed g2 En) (fun h=>?_)
   obtain⟨_,y,hy,hry⟩:=h2 h;exact⟨rfl,_,.cons _ _ _ _ hry .nil,rd_pre (by rw[hw.2];simp) hy⟩
  |false =>
   have hn2:=G6 ht hi hb2 (by decide)
   simp(maxSteps:=9^7) (disch:=omega)only[go_sem,reduceAdd,reduceEqDiff,reduceLeDiff,hf1];refine Ey (w:=[45]) hi ?_;simp(maxSteps:=9^7) (disch:=omega)only[go_sem,reduceAdd,reduceEqDiff,reduceLeDiff,hf3,hf4,hb];refine Ma (Hv ts) (by kernel_rfl) hi hP fun j e1 p1 x0 x1 x2 x3 x4 x5 hj hij g1 h1=>?_
   have key:=fun t S=>mV ht (i:=i) (ts.length+1) j e1 p1 x0 x1 x2 x3 x4 x5 t S
   unfold bX at key;simp only[Tryz.f271]at key;simp(maxSteps:=9^7) (disch:=omega)only[go_sem,reduceAdd,reduceEqDiff,reduceLeDiff,stA,stL,A2,Bool.and_self];refine WX.mono (key _ _ (by omega) hj hij g1 ⟨?_,?_,?_,?_,?_,?_,?_,?_⟩ ?_) ?_
   ·simp only[A0,reduceEqDiff,Aa,Ab]
   ·simp only[A0,reduceEqDiff,Aa,Ab]
   ·simp only[A0,reduceEqDiff,Aa,Ab]
   ·simp only[A0,reduceEqDiff,Aa,Ab]
   ·simp only[A5,Bj,B6,Br,reduceAdd,reduceEqDiff,Aa,Ab];rfl
   ·simp only[A5,Bj,B6,Br,reduceAdd,reduceEqDiff,Aa,Ab]
   ·simp only[A5,Bj,B6,Br,reduceAdd,reduceEqDiff,Aa,Ab];rfl
   ·simp only[A5,Bj,B6,Br,reduceAdd,reduceEqDiff,Aa,Ab]
   ·intro h
    obtain⟨_,x,hx1,hr1⟩:=h1 h;exact⟨x,hr1,fun y m hr=>rd_un (fun h=>hn2 (Jb5.1 h)) (fun h=>hn1 (Jb5.1 h)) hx1 hr⟩
   rintro _ ⟨t',S',rfl,m,e2,p2,y0,y1,y2,y3,y4,y5,⟨T1,T2,T3,T8,M2,M3,M4,M5⟩,hm,him,g,hh⟩;unfold stL at M2;have a0:=(Dh g.2.1).1;have a1:=(Dh g.2.1).2.1;have a2:=(Dh g.2.1).2.2.1;have a3:=(Dh g.2.1).2.2.2.1;have a4:=(Dh g.2.1).2.2.2.2.1;have a5:=(Dh g.2.1).2.2.2.2.2;simp(maxSteps:=9^7) (disch:=omega)only[go_sem];refine Dd [(0,true),(1,true),(2,true),(1,false),(3,true)] (by kernel_rfl) (by kernel_rfl) ?_
   simp(maxSteps:=9^7) (disch:=omega)only[go_sem,reduceLT,reduceAdd,reduceEqDiff,reduceLeDiff,A2,a0,a1,a2,a3,a4,a5,T1,T2,T3,T8,M2,M3,M4,M5,Bool.and_self];exact Ju (Pa ts) _ m e2 p2 hm him g (fun h=>⟨rfl,hh h⟩)
end Go.Ax
noncomputable section
namespace Go.Ax
open Go.RowKit Go.Proofs
structure AllK(ts:List Tk)(i:Nat):Prop where
 ex:∀e p,Kn3 ts 182 [stA ts i e p]
 ar:∀e p,Kn3 ts 223 [stA ts i e p]
 ro:∀e p (lv:Nat),lv≤5→Kn3 ts 250 [stA ts i e p,.v (.int .i64 (lv:Int))]
 ki:∀e p b,Kn3 ts 222 [stA ts i e p,.v (.bool b)]
theorem arrow_bad{ts:List Tk}(ht:Tok3 ts)(i:Nat)(e p:Int)(hi:i<ts.length)(he:e≠0):Kn3 ts 223 [stA ts i e p] :=
 arrow_k ht i e p hi (row_bad i e p 0 hi he) (fun h=>absurd h he)
theorem expr_bad{ts:List Tk}(ht:Tok3 ts)(i:Nat)(e p:Int)(hi:i<ts.length)(he:e≠0):Kn3 ts 182 [stA ts i e p] :=
 expr_k ht i e p hi (arrow_bad ht i e p hi he) (fun h=>absurd h he)
theorem kids_bad{ts:List Tk}(ht:Tok3 ts)(i:Nat)(e p:Int)(b:Bool)(hi:i<ts.length)(he:e≠0):Kn3 ts 222 [stA ts i e p,.v (.bool b)] :=
 kids_k ht i e p b hi (fun h=>absurd h he)
theorem allK3{ts:List Tk}(ht:Tok3 ts):∀(d i:Nat),ts.length - i<d→i<ts.length→AllK ts i
 |0,i,hd,hi=>absurd hd (by omega)
 |d+1,i,hd,hi=>by
  have ih:∀i',i'<ts.length→i<i'→AllK ts i':=fun i' h h2=>allK3 ht d i' (by omega) h
  have hE:∀i' e p,i'<ts.length→(i<i'∨e≠0)→Kn3 ts 182 [stA ts i' e p]:=fun i' e p hi' ho=>by
   by_cases he:e=0
   ·subst he;exact(ih i' hi' (ho.elim id (fun h=>absurd rfl h))).ex 0 p
   ·exact expr_bad ht i' e p hi' he
  have hK:∀i' e p b,i'<ts.length→(i<i'∨e≠0)→Kn3 ts 222 [stA ts i' e p,.v (.bool b)]:=fun i' e p b hi' ho=>by
   by_cases he:e=0
   ·subst he;exact(ih i' hi' (ho.elim id (fun h=>absurd rfl h))).ki 0 p b
   ·exact kids_bad ht i' e p b hi' he
  have hR:∀(lv:Nat),lv≤5→∀i' p,i'<ts.length→i<i'→Kn3 ts 250 [stA ts i' 0 p,.v (.int .i64 (lv:Int))]:=fun lv hl i' p hi' h=>(ih i' hi' h).ro 0 p lv hl
  have hP:∀p,Kn3 ts 286 [stA ts i 0 p]:=fun p=>primary_k ht i p hi hE hK
  have hU:∀p,Kn3 ts 271 [stA ts i 0 p]:=fun p=>unary_k ht i p hi (hP p) (hR 5 (by omega))
  have h5:∀p,Kn3 ts 250 [stA ts i 0 p,.v (.int .i64 ((5:Nat):Int))]:=fun p=>row5_k i p hi (hU p)
  have h4:∀p,Kn3 ts 250 [stA ts i 0 p,.v (.int .i64 ((4:Nat):Int))]:=fun p=>row4_k ht i p hi (h5 p) (hR 5 (by omega))
  have h3:∀p,Kn3 ts 250 [stA ts i 0 p,.v (.int .i64 ((3:Nat):Int))]:=fun p=>row3_k ht i p hi (h4 p) (hR 4 (by omega))
  have h2:∀p,Kn3 ts 250 [stA ts i 0 p,.v (.int .i64 ((2:Nat):Int))]:=fun p=>row2_k ht i p hi (h3 p) (hR 3 (by omega)) (hR 2 (by omega))
  have h1:∀p,Kn3 ts 250 [stA ts i 0 p,.v (.int .i64 ((1:Nat):Int))]:=fun p=>row1_k ht i p hi (h2 p) (hR 2 (by omega))
  have h0:∀p,Kn3 ts 250 [stA ts i 0 p,.v (.int .i64 ((0:Nat):Int))]:=fun p=>row0_k ht i p hi (h1 p) (hR 1 (by omega))
  have hro:∀e p (lv:Nat),lv≤5→Kn3 ts 250 [stA ts i e p,.v (.int .i64 (lv:Int))]:=fun e p lv hl=>by
   by_cases he:e=0
   ·subst he
    match lv,hl with
    |0,_=>exact h0 p
    |1,_=>exact h1 p
    |2,_=>exact h2 p
    |3,_=>exact h3 p
    |4,_=>exact h4 p
    |5,_=>exact h5 p
   ·exact row_bad i e p lv hi he
  have har:∀e p,Kn3 ts 223 [stA ts i e p]:=fun e p=>arrow_k ht i e p hi (hro e p 0 (by omega)) (fun _ i' p hi' h=>(ih i' hi' h).ar 0 p)
  have hex:∀e p,Kn3 ts 182 [stA ts i e p]:=fun e p=>expr_k ht i e p hi (har e p) (fun _=>hE)
  exact⟨hex,har,hro,fun e p b=>kids_k ht i e p b hi (fun _ i' p hi' h=>by
   rcases Nat.lt_or_eq_of_le h with h |h
   ·exact(ih i' hi' h).ex 0 p
   ·subst h;exact hex 0 p)⟩
theorem expr_all{ts:List Tk}(ht:Tok3 ts)(i:Nat)(e p:Int)(hi:i<ts.length):Kn3 ts 182 [stA ts i e p]:=(allK3 ht (ts.length+1) i (by omega) hi).ex e p
theorem kids_all{ts:List Tk}(ht:Tok3 ts)(i:Nat)(e p:Int)(b:Bool)(hi:i<ts.length):Kn3 ts 222 [stA ts i e p,.v (.bool b)]:=(allK3 ht (ts.length+1) i (by omega) hi).ki e p b
end Go.Ax
noncomputable section
namespace Go.Ax
open Go.RowKit Go.Proofs
set_option maxRecDepth 100000
theorem gmax(f:T AV)(S:St)(dst:Option Tmp)(k l:Tmp)(ty:TypeId)(pos:String)(af:Array Edge)(gd:Option (Nat × Bool)):
  ground Tryz.prog G0 f S { dst:=dst,op:=.call { callee:=.builtin .max,args:=#[.tmp k,.tmp l],argTypes:=#[3,3] },type:=ty,pos:=pos,after:=af,guard:=gd }=maxO (maxX Tryz.prog G0 f S { dst:=dst,op:=.call { callee:=.builtin .max,args:=#[.tmp k,.tmp l],argTypes:=#[3,3] },type:=ty,pos:=pos,after:=af,guard:=gd }) S (f.get k) (f.get l):=by
 unfold maxO
 split
 ·rename_i a b h1 h2
  have hg1:B8 G0 f (.tmp k)=some (.int .i64 a):=by unfold B8;simp only[A6,h1];rfl
  have hg2:B8 G0 f (.tmp l)=some (.int .i64 b):=by unfold B8;simp only[A6,h2];rfl
  unfold ground
  have hall:((Op.call { callee:=.builtin .max,args:=#[.tmp k,.tmp l],argTypes:=#[3,3] }:Op).operands.toList.all fun x=>(B8 G0 f x).isSome)=true:=by
   show([Operand.tmp k,Operand.tmp l].all fun x=>(B8 G0 f x).isSome)=true
   simp only[List.all_cons,List.all_nil,hg1,hg2,Option.isSome_some,Bool.and_self]
  refine(if_pos hall).trans ?_;rw[max_eq];have e1:(B8 G0 f (.tmp k)).getD undef=.int .i64 a:=by rw[hg1];rfl
  have e2:(B8 G0 f (.tmp l)).getD undef=.int .i64 b:=by rw[hg2];rfl
  simp only[e1,e2,max_val];rfl
 ·rfl
def fV:Code:=match Tryz.f183.body with
 |some (.seq _ (.seq _ (.seq (.seq _ (.block _ (.loop c))) _)))=>c
 |_=>.skip
theorem Pf:∀{es:List AV} {l:List PE},RepF es l→∀(i:Nat) (h:i<es.length) (h2:i<l.length),RepE es[i] l[i]
 |_,_,.nil,i,h,_=>by cases h
 |_,_,.cons a e r l h h2,0,_,_=>h
 |_,_,.cons a e r l h h2,i+1,h3,h4=>Pf h2 i (Nat.lt_of_succ_lt_succ h3) (Nat.lt_of_succ_lt_succ h4)
theorem bZ{ts:List Tk}{S:St}{Q:R→Prop}{xs:List AV}{x:PE}(hr:RepE (.agg xs) x)(hd:Cp x≤1000000)(hk:Kn3 ts 183 [clean (.agg xs)])(h:Q (.ret (.v (.int .i64 (dN x:Nat))) S)):WC (E3 ts) 183 [.agg xs] S Q :=
 P9 hk (by kernel_rfl) (by show(Bw _ && true)=true;rw[(Iz hr).1];rfl) rfl fun a _ _ hs=>by
  have hc:clean (.agg xs)=.agg (Be xs):=rfl;rw[hc]at hs;have:=hs (Be xs) x rfl (Iz hr).2 hd;rw[this];exact h
theorem dNL_drop{l:List PE}{j:Nat}(h:j<l.length):dNL (l.drop j)=max (dN l[j]) (dNL (l.drop (j+1))):=by
 rw[Ja6 h,dNL]
theorem Po{l:List PE}{j:Nat}(h:j<l.length):Cp l[j]≤Ch l:=by
 have h1:∀(l:List PE) (j:Nat) (h:j<l.length),Cp l[j]≤Ch l:=by
  intro l
  induction l with
  |nil=>intro j h;cases h
  |cons e r ih=>intro j h;cases j with
   |zero=>rw[Ch];simp only[List.getElem_cons_zero];omega
   |succ j=>rw[Ch];have:=ih j (Nat.lt_of_succ_lt_succ h);simp only[List.getElem_cons_succ];omega
 exact h1 l j h
theorem deep_lp{ts:List Tk}{tok off:Nat}{es:List AV}{kids:List PE}(hrep:RepF es kids)(hd:Ch kids≤999999)(hl:es.length≤1000000)(hK:∀(i:Nat) (h:i<es.length),Kn3 ts 183 [clean es[i]]):∀(n j:Nat) (m:Nat) (t:T AV) (S:St),j+n=es.length→1≤m→m≤1000000→t.get 3=some (.v (.int .i64 (m:Int)))→t.get 7=some (.sl tok off 6 es)→t.get 8=some (.v (.int .i64 (es.length:Int)))→t.get 9=some (.v (.int .i64 (j:Int))) →
  WX (E3 ts) 20 (.loop fV) ⟨t,[]⟩ S (fun r=>∃t' S',r=.out (.exit 0) ⟨t',[]⟩ S'∧t'.get 3=some (.v (.int .i64 ((max m (1+dNL (kids.drop j)):Nat):Int))))
 |0,j,m,t,S,hj,hm1,hm2,T3,T7,T8,T9=>by
  refine Bt (Bp ?_);have hlt:decide ((j:Int)<(es.length:Int))=false:=by rw[decide_eq_false];omega
  simp(disch:=omega)only[go_sem,reduceEqDiff,fV,Tryz.f183,T7,T8,T9,hlt];refine⟨_,_,rfl,?_⟩;have h1:kids.drop j=[]:=List.drop_of_length_le (by rw[G9 hrep];omega)
  have h2:max m (1+dNL (kids.drop j))=m:=by rw[h1,dNL];omega
  rw[h2];simp only[A0,reduceEqDiff,Ab,T3]
 |n+1,j,m,t,S,hj,hm1,hm2,T3,T7,T8,T9=>by
  refine Bt (Bp ?_);have hje:j<es.length:=by omega
  have hjk:j<kids.length:=by rw[G9 hrep];exact hje
  have hlt:decide ((j:Int)<(es.length:Int))=true:=by rw[decide_eq_true_eq];omega
  obtain⟨fn1,hf1⟩:=fX 183;have hx:=yx60 tok off es j hje;have hw:=Fl j (by omega)
  have hre:=Pf hrep j hje hjk;have hdj:=Po hjk;have hkj:=hK j hje;rw[dNL_drop hjk];generalize es[j]=v at hx hre hkj;generalize kids[j]=x at hre hdj;have hdx:=dN_le x;obtain⟨xs,rfl,hx6⟩:=RepE.agg hre
  match xs,hx6 with
  | [x0,x1,x2,x3,x4,x5],_ =>
  simp only[L7]at hx;have hwd:IntKind.i64.wrap (1+((dN x:Nat):Int))=((1+dN x:Nat):Int):=by rw[IntKind.wrap_i64];omega
  simp(disch:=omega)only[go_sem,reduceAdd,reduceEqDiff,reduceLeDiff,fV,Tryz.f183,T3,T7,T8,T9,hlt,hx,hf1];refine bZ hre (by omega) hkj ?_
  have hmx:(if((1+dN x:Nat):Int) > (m:Int)then((1+dN x:Nat):Int)else(m:Int))=((max m (1+dN x):Nat):Int):=by
   split <;> omega
  simp(disch:=omega)only[go_sem,reduceEqDiff,T9,hw,hwd,hmx,gmax,maxO_ii];refine WX.mono (deep_lp (tok:=tok) (off:=off) hrep hd hl hK n (j+1) (max m (1+dN x)) _ _ (by omega) (by omega) (by omega) ?_ ?_ ?_ ?_) ?_
  ·simp only[A0,reduceEqDiff,Aa,Ab]
  ·simp only[A0,reduceEqDiff,Ab,T7]
  ·simp only[A0,reduceEqDiff,Ab,T8]
  ·simp only[A0,reduceEqDiff,Aa,Ab]
  rintro _ ⟨t',S',rfl,h3⟩;refine⟨_,_,rfl,?_⟩;rw[h3]
  congr 4
  omega
theorem uZ{ts:List Tk}{a:AV}{x:PE}(hr:RepE a x)(n:Nat)(hn:n=dN x)(S':St):∃a' S'',R.ret (.v (.int .i64 (n:Int))) S' = R.ret a' S''∧Bw a' = true∧Fv ts 183 [a] (clean a'):=by
 refine⟨_,_,rfl,rfl,?_⟩;intro xs y h hy hd;have:=(Cy h).1;subst this;have:=Sz hr hy;subst this;rw[hn];rfl
theorem zK{ts:List Tk}(x:PE):∀(a:AV),RepE a x→Cp x≤1000000→Kn3 ts 183 [a]:=fun a hr hd=>by
 match x,hr with
 |.mk kind pos n name off kids,.mk _ _ _ _ _ kv _ hkv =>
 have ih:∀e∈kids,∀a,RepE a e→Cp e≤1000000→Kn3 ts 183 [a]:=fun e he a=>zK e a
 have hr:RepE (.agg (exC kind pos n name off kv)) (.mk kind pos n name off kids):=.mk _ _ _ _ _ _ _ hkv;have hdk:Ch kids≤999999:=by rw[Cp]at hd;omega
 refine Jq Tryz.f183 (by kernel_rfl) (by kernel_rfl) (by show(_:Nat)≤_;simp[Tryz.f183]) ?_
 cases hkv with
 |nil =>
  have hlt:decide ((0:Int)<((0:Nat):Int))=false:=rfl;simp(disch:=omega)only[go_sem,reduceEqDiff,Tryz.f183,A2,exC,Bk];refine Bt (Bp ?_);simp(disch:=omega)only[go_sem,reduceLT,reduceEqDiff,hlt];exact uZ hr 1 (by rw[dN,dNL]) _
 |row tok o es _ hF =>
  have hlen:=G9 hF;have key:=fun hl t S=>deep_lp (tok:=tok) (off:=o) hF hdk hl (fun i h=>ih _ (List.getElem_mem (by rw[hlen];exact h)) _ (Ln (Pf hF i h (by rw[hlen];exact h))) (by have:=Po (l:=kids) (j:=i) (by rw[hlen];exact h);omega)) es.length 0 1 t S (by omega) (by omega) (by omega)
  unfold fV at key;simp only[Tryz.f183]at key;simp(disch:=omega)only[go_sem,reduceEqDiff,Tryz.f183,A2,exC,Bk];refine WX.mono (key (by have:=Pp kids;omega) _ _ ?_ ?_ ?_ ?_) ?_
  ·simp only[A0,reduceEqDiff,Aa,Ab] <;> rfl
  ·simp only[A0,reduceEqDiff,Aa,Ab] <;> rfl
  ·simp only[A0,reduceEqDiff,Aa,Ab] <;> rfl
  ·simp only[A0,reduceEqDiff,Aa,Ab] <;> rfl
  rintro _ ⟨t',S',rfl,T3⟩;simp(disch:=omega)only[go_sem,reduceLT,reduceEqDiff,T3];exact uZ hr _ (by rw[dN];omega) _
termination_by x
mutual
theorem fW:∀x:PE,dN x≤1000000→Kt x=(dN x:Int)
 |.mk _ _ _ _ _ kids,h=>by
  rw[dN]at h;rw[Kt,vN kids 0 (by omega) (by omega),dN,IntKind.wrap_i64]
  omega
theorem vN:∀(l:List PE) (m:Int),0≤m→dNL l≤1000000→Q9 l m=max m (dNL l:Int)
 | [],m,h0,h=>by rw[Q9,dNL];omega
 |e :: r,m,h0,h=>by
  rw[dNL]at h;rw[Q9,fW e (by omega),dNL]
  rw[vN r _ (by split <;> omega) (by omega)]
  split <;> omega
end
theorem V3{ts:List Tk}{i:Nat}{e p:Int}(S':St)(j:Nat)(e1 p1:Int){x0 x1 x2 x3 x4 x5 x6 x7:AV}(hj:j<ts.length)(hij:i≤j)(g:Gd [x0,x1,x2,x3,x4,x5,x6,x7])(hh:e1=0→e=0∧∃q,U5 (.agg [x0,x1,x2,x3,x4,x5,x6,x7]) q∧(∃n,∀m,n≤m→eqP ts m i=.ok q j)∧i<j):
  ∃a S'',R.ret (.tup [stA ts j e1 p1,.agg [x0,x1,x2,x3,x4,x5,x6,x7]]) S' = R.ret a S''∧Bw a=true∧Fv ts 120 [stA ts i e p] (clean a):=by
 refine⟨_,_,rfl,?_,?_⟩
 ·show(Bw _ && (C5 _ && true))=true
  rw[K1,g.1];rfl
 intro i' e' p' h hi;obtain⟨rfl,rfl,rfl⟩:=Mb (Cy h).1;refine⟨j,e1,p1,clean x0,clean x1,clean x2,clean x3,clean x4,clean x5,clean x6,clean x7,?_,hj,hij,g.2.2,fun h0=>?_⟩
 ·show AV.tup [clean _,.agg _]=_
  rw[Jf];rfl
 ·obtain⟨q1,q,q2,q3⟩:=hh h0
  exact⟨q1,q,(lC q2).2,q3⟩
theorem lvo_free{S:St}{lv:AV}{es:List AV}(h:LvO S lv es)(g:Gd es):Bw lv=true∧D1 lv lv=true∧lv.single=true:=by
 rcases h with⟨rfl,rfl⟩ | ⟨tok,rfl,_⟩
 ·exact⟨rfl,rfl,rfl⟩
 ·exact⟨g.1,by rw[Qc];exact g.2.1,rfl⟩
theorem lvo_row{S:St}{lv:AV}{l:List (List UInt8 × Nat)}(h:LvO S lv (l.map Fg)):H8 2 Fg lv l:=by
 rcases h with⟨rfl,h⟩ | ⟨tok,rfl,_⟩
 ·exact .inl ⟨rfl,List.map_eq_nil_iff.1 h⟩
 ·exact .inr ⟨tok,0,rfl⟩
theorem eq_async{ts:List Tk}{i j m:Nat}{l:List (List UInt8 × Nat)}{x:PE}(h1:Px ts i l j)(h2:(tk ts j).text∈[[61]])(h3:(tk ts (j+1)).text∈[[97,115,121,110,99]])(h4:RdX ts .call (j+2) x m)(h5:¬ Kt x > 40)(h6:(tk ts m).text∈[[59]]):∃n,∀q,n≤q→eqP ts q i=.ok ⟨l,true,x⟩ (m+1):=by
 obtain⟨n1,e1⟩:=h1;obtain⟨⟨n2,e2⟩,_,_⟩:=h4;refine⟨n1+n2,fun q hq=>?_⟩
 unfold eqP F6;rw[e1 q (by omega),Cj,Ek h2,Cj,if_pos h3,e2 q (by omega),Cj,if_neg h5,Cj,Ek h6,Cj]
theorem eq_plain{ts:List Tk}{i j m:Nat}{l:List (List UInt8 × Nat)}{x:PE}(h1:Px ts i l j)(h2:(tk ts j).text∈[[61]])(h3:(tk ts (j+1)).text ∉ [[97,115,121,110,99]])(h4:RdX ts .expr (j+1) x m)(h5:¬ Kt x > 40)(h6:(tk ts m).text∈[[59]]):∃n,∀q,n≤q→eqP ts q i=.ok ⟨l,false,x⟩ (m+1):=by
 obtain⟨n1,e1⟩:=h1;obtain⟨⟨n2,e2⟩,_,_⟩:=h4;refine⟨n1+n2,fun q hq=>?_⟩
 unfold eqP F6;rw[e1 q (by omega),Cj,Ek h2,Cj,if_neg h3,e2 q (by omega),Cj,if_neg h5,Cj,Ek h6,Cj]
def eqTB:Code:=match Tryz.f120.body with
 |some (.seq _ (.seq _ (.seq _ (.seq _ (.seq _ (.seq _ c))))))=>c
 |_=>.skip
theorem pG{ts:List Tk}(ht:Tok3 ts)(i:Nat)(e p:Int)(m:Nat)(e2 p2:Int)(lv:AV)(es:List AV)(t:T AV)(S:St)(bl:Bool)(hi:i<ts.length)(hm:m<ts.length)(him:i≤m)(A:AtL ts bl m e2 p2 lv es t S)(g:Gd es)(hF:e2=0→e=0∧∃l:List (List UInt8 × Nat),es=l.map Fg∧l≠[]∧Px ts i l m):
  W (E3 ts) 107 eqTB ⟨t,[]⟩ S (U6 (E3 ts) Tryz.f120.results.toList (fun r=>∃a S',r=.ret a S'∧Bw a=true∧Fv ts 120 [stA ts i e p] (clean a))):=by
 obtain⟨T1,T2,T3,T4,T5,M2,M3,M4,M5,hnx,LV⟩:=A;have hsz:=ht.size;obtain⟨fn1,hf1⟩:=fX 118;obtain⟨fn2,hf2⟩:=fX 115;obtain⟨fn3,hf3⟩:=fX 116;obtain⟨fn4,hf4⟩:=fX 181;obtain⟨fn5,hf5⟩:=fX 182;obtain⟨fn6,hf6⟩:=fX 183;obtain⟨hlvf,hlvq,hlv1⟩:=lvo_free LV g
 have hfree:∀(b:Bool) (y0 y1 y2 y3 y4 y5:AV),Gd [y0,y1,y2,y3,y4,y5]→Gd [lv,.v (.bool b),y0,y1,y2,y3,y4,y5]:=fun b y0 y1 y2 y3 y4 y5 h=>by
  have hcl:D1 (clean lv) (clean lv)=true:=by
   rcases LV with⟨rfl,_⟩ | ⟨tok,rfl,_⟩
   ·rfl
   ·show D1 (.sl 0 0 2 (Be es)) (.sl 0 0 2 (Be es))=true
    rw[Qc];exact g.2.2
  refine⟨?_,?_,?_⟩
  ·show(Bw lv && C5 [y0,y1,y2,y3,y4,y5])=true
   rw[hlvf,h.1];rfl
  ·rw[Jn,Jn,hlvq,Pt,h.2.1];rfl
  ·show Gm (clean lv :: .v (.bool b) :: Be [y0,y1,y2,y3,y4,y5]) (clean lv :: .v (.bool b) :: Be [y0,y1,y2,y3,y4,y5])=true
   rw[Jn,Jn,hcl,Pt,h.2.2];rfl
 unfold stL at M2;simp(maxSteps:=9^7) (disch:=omega)only[go_sem,reduceAdd,reduceLeDiff,eqTB,Tryz.f120,stA,stL,T1,M2,hf2];refine Di (w:=[61]) ht hm fun q e3 p3 hq hmq h3=>?_
 simp(maxSteps:=9^7) (disch:=omega)only[go_sem,reduceAdd,reduceEqDiff,reduceLeDiff,stA,stL,T1,M2,hf1,Bool.and_self];refine Ey (w:=[97,115,121,110,99]) hq ?_
 cases hb:isB ts q e3 [97,115,121,110,99]with
 |true =>
  obtain⟨z3,hwa⟩:=Dy hb;subst z3;have z3:(0:Int)=0:=rfl;have hn:=hwa.next ht hq;have hw2:=Fl q (by omega)
  simp(maxSteps:=9^7) (disch:=omega)only[go_sem,reduceAdd,reduceEqDiff,reduceLeDiff,T1,T4,M2,M5,hf3,hf5,hf6,hw2];refine J0 ht hn fun r e4 p4 nm at_ hr hqr h4=>?_
  simp(maxSteps:=9^7) (disch:=omega)only[go_sem,reduceAdd,reduceEqDiff,reduceLeDiff,stA,stL,A2,T1,M2,hf4,Bool.and_self];refine qU hr (call_k ht r e4 p4 nm at_ hr (fun i' e p hi' _=>kids_all ht i' e p false hi')) fun u e5 p5 y0 y1 y2 y3 y4 y5 hu hru g5 h5c=>?_
  have h5:e5=0→e4=0∧∃x,RdX ts .call (q+1) x u∧RepE (.agg [y0,y1,y2,y3,y4,y5]) x:=fun h=>by
   obtain⟨z4,l,hrep,hc⟩:=h5c h;obtain⟨_,hk1,rfl,rfl,rfl⟩:=h4 z4
   exact⟨z4,_,vT hk1 (fun hno hz=>hno ((eY ht (by
    have:=hc.1.next ht (by omega)
    exact this) (by decide) (by decide)).1 hz)) hc,hrep⟩
  simp(maxSteps:=9^7) (disch:=omega)only[go_sem,reduceAdd,reduceEqDiff,reduceLeDiff,stA,stL,T1,T4,M2,M5,Bool.and_self];have a0:=(Dh g5.2.1).1;have a1:=(Dh g5.2.1).2.1;have a2:=(Dh g5.2.1).2.2.1;have a3:=(Dh g5.2.1).2.2.2.1;have a4:=(Dh g5.2.1).2.2.2.2.1;have a5:=(Dh g5.2.1).2.2.2.2.2
  by_cases he5:e5=0
  ·subst he5
   have h0:((0:Int) == 0)=true:=rfl;obtain⟨z4,x,hx,hrx⟩:=h5 rfl;have hkd:=rep6 hrx;obtain⟨kd,ps,nn,nme,off,kids,hxe,rfl,rfl,rfl,rfl,rfl,hkids⟩:=hkd;have hsx:Cp x≤1000000:=by have:=hx.deep;omega
   simp(maxSteps:=9^7) (disch:=omega)only[go_sem,reduceAdd,reduceEqDiff,reduceLeDiff,A2,M5,hf6,h0];refine bZ hrx hsx (zK x _ (Ln hrx) hsx) ?_
   cases hdp:decide (((dN x:Nat):Int) > 40)with
   |true =>
    simp(maxSteps:=9^7) (disch:=omega)only[go_sem,reduceAdd,reduceEqDiff,reduceLeDiff,T1,T4,M2,M5,hdp];refine Dd [(0,true),(2,true),(1,true),(2,false),(3,true),(2,false),(4,true)] (by kernel_rfl) (by kernel_rfl) ?_
    simp(maxSteps:=9^7) (disch:=omega)only[go_sem,reduceLT,reduceAdd,reduceEqDiff,reduceLeDiff,T1,T4,M2,M5,hf2];refine Di (w:=[59]) ht hu fun v e6 p6 hv huv h6=>?_
    simp(maxSteps:=9^7) (disch:=omega)only[go_sem,reduceAdd,reduceEqDiff,reduceLeDiff,stA,stL,T2,T3,T4,M3,M4,M5,hlvq,a0,a1,a2,a4,a5,Bool.and_self];exact V3 _ v e6 p6 hv (by omega) (hfree _ _ _ _ _ _ _ g5) (fun h=>by have:=(h6 h).1;cases this)
   |false =>
    simp(maxSteps:=9^7) (disch:=omega)only[go_sem,reduceAdd,reduceEqDiff,reduceLeDiff,T1,T4,M2,M5,hdp];refine Dd [(0,true),(2,true),(1,true),(2,false),(3,true),(2,false),(4,true)] (by kernel_rfl) (by kernel_rfl) ?_
    simp(maxSteps:=9^7) (disch:=omega)only[go_sem,reduceLT,reduceAdd,reduceEqDiff,reduceLeDiff,T1,T4,M2,M5,hf2];refine Di (w:=[59]) ht hu fun v e6 p6 hv huv h6=>?_
    simp(maxSteps:=9^7) (disch:=omega)only[go_sem,reduceAdd,reduceEqDiff,reduceLeDiff,stA,stL,T2,T3,T4,M3,M4,M5,hlvq,a0,a1,a2,a4,a5,Bool.and_self];refine V3 _ v e6 p6 hv (by omega) (hfree _ _ _ _ _ _ _ g5) (fun h=>?_)
    obtain⟨_,w6,rfl⟩:=h6 h
    have hdd:¬ Kt x > 40:=by
     rw[decide_eq_false_iff_not]at hdp;rw[fW x (by have:=dN_le x;omega)]
     exact hdp
    obtain⟨rfl,l,hl,hne,hX⟩:=hF (h3 z3).1;obtain⟨_,weq,rfl⟩:=h3 z3;exact⟨rfl,⟨l,true,x⟩,⟨_,_,rfl,by rw[hl]at LV;exact lvo_row LV,rfl,hrx⟩,eq_async hX (by rw[weq.2];simp) (by rw[hwa.2];simp) hx hdd (by rw[w6.2];simp),by omega⟩
  ·have h0:(e5 == 0)=false:=by rw[beq_eq_false_iff_ne];exact he5
   simp(maxSteps:=9^7) (disch:=omega)only[go_sem,reduceAdd,reduceEqDiff,reduceLeDiff,T1,T4,M2,M5,hf6,h0];refine Dd [(0,true),(2,true),(1,true),(2,false),(3,true),(2,false),(4,true)] (by kernel_rfl) (by kernel_rfl) ?_
   simp(maxSteps:=9^7) (disch:=omega)only[go_sem,reduceLT,reduceAdd,reduceEqDiff,reduceLeDiff,T1,T4,M2,M5,hf2];refine Di (w:=[59]) ht hu fun v e6 p6 hv huv h6=>?_
   simp(maxSteps:=9^7) (disch:=omega)only[go_sem,reduceAdd,reduceEqDiff,reduceLeDiff,stA,stL,T2,T3,T4,M3,M4,M5,hlvq,a0,a1,a2,a3,a4,a5,Bool.and_self];exact V3 _ v e6 p6 hv (by omega) (hfree _ _ _ _ _ _ _ g5) (fun h=>absurd (h6 h).1 he5)
 |false =>
  simp(maxSteps:=9^7) (disch:=omega)only[go_sem,reduceAdd,reduceEqDiff,reduceLeDiff,T1,T4,M2,M5,hf3,hf5]
  by_cases he3:e3=0
  ·subst he3
   have hnoa:(0:Int)=0→(tk ts q).text≠[97,115,121,110,99]:=fun _=>G6 ht hq hb (by decide)
   have h0:((0:Int) == 0)=true:=rfl;simp(maxSteps:=9^7) (disch:=omega)only[go_sem,reduceAdd,reduceEqDiff,reduceLeDiff,M5,hf6,h0];refine Ma (Wr ts) (by kernel_rfl) hq (expr_all ht q 0 p3 hq) fun u e5 p5 y0 y1 y2 y3 y4 y5 hu hru g5 h5=>?_
   simp(maxSteps:=9^7) (disch:=omega)only[go_sem,reduceAdd,reduceEqDiff,reduceLeDiff,stA,stL,T1,T4,M2,M5,Bool.and_self];have a0:=(Dh g5.2.1).1;have a1:=(Dh g5.2.1).2.1;have a2:=(Dh g5.2.1).2.2.1;have a3:=(Dh g5.2.1).2.2.2.1;have a4:=(Dh g5.2.1).2.2.2.2.1;have a5:=(Dh g5.2.1).2.2.2.2.2
   by_cases he5:e5=0
   ·subst he5
    have h0:((0:Int) == 0)=true:=rfl;obtain⟨z4,x,hx,hrx⟩:=h5 rfl;have hkd:=rep6 hrx;obtain⟨kd,ps,nn,nme,off,kids,hxe,rfl,rfl,rfl,rfl,rfl,hkids⟩:=hkd;have hsx:Cp x≤1000000:=by have:=hx.deep;omega
    simp(maxSteps:=9^7) (disch:=omega)only[go_sem,reduceAdd,reduceEqDiff,reduceLeDiff,A2,M5,hf6,h0];refine bZ hrx hsx (zK x _ (Ln hrx) hsx) ?_
    cases hdp:decide (((dN x:Nat):Int) > 40)with
    |true =>
     simp(maxSteps:=9^7) (disch:=omega)only[go_sem,reduceAdd,reduceEqDiff,reduceLeDiff,T1,T4,M2,M5,hdp];refine Dd [(0,true),(2,true),(1,true),(2,false),(3,true),(2,false),(4,true)] (by kernel_rfl) (by kernel_rfl) ?_
     simp(maxSteps:=9^7) (disch:=omega)only[go_sem,reduceLT,reduceAdd,reduceEqDiff,reduceLeDiff,T1,T4,M2,M5,hf2];refine Di (w:=[59]) ht hu fun v e6 p6 hv huv h6=>?_
     simp(maxSteps:=9^7) (disch:=omega)only[go_sem,reduceAdd,reduceEqDiff,reduceLeDiff,stA,stL,T2,T3,T4,M3,M4,M5,hlvq,a0,a1,a2,a4,a5,Bool.and_self];exact V3 _ v e6 p6 hv (by omega) (hfree _ _ _ _ _ _ _ g5) (fun h=>by have:=(h6 h).1;cases this)
    |false =>
     simp(maxSteps:=9^7) (disch:=omega)only[go_sem,reduceAdd,reduceEqDiff,reduceLeDiff,T1,T4,M2,M5,hdp];refine Dd [(0,true),(2,true),(1,true),(2,false),(3,true),(2,false),(4,true)] (by kernel_rfl) (by kernel_rfl) ?_
     simp(maxSteps:=9^7) (disch:=omega)only[go_sem,reduceLT,reduceAdd,reduceEqDiff,reduceLeDiff,T1,T4,M2,M5,hf2];refine Di (w:=[59]) ht hu fun v e6 p6 hv huv h6=>?_
     simp(maxSteps:=9^7) (disch:=omega)only[go_sem,reduceAdd,reduceEqDiff,reduceLeDiff,stA,stL,T2,T3,T4,M3,M4,M5,hlvq,a0,a1,a2,a4,a5,Bool.and_self];refine V3 _ v e6 p6 hv (by omega) (hfree _ _ _ _ _ _ _ g5) (fun h=>?_)
     obtain⟨_,w6,rfl⟩:=h6 h
     have hdd:¬ Kt x > 40:=by
      rw[decide_eq_false_iff_not]at hdp;rw[fW x (by have:=dN_le x;omega)]
      exact hdp
     obtain⟨zz,weq,rfl⟩:=h3 z4;obtain⟨rfl,l,hl,hne,hX⟩:=hF zz;exact⟨rfl,⟨l,false,x⟩,⟨_,_,rfl,by rw[hl]at LV;exact lvo_row LV,rfl,hrx⟩,eq_plain hX (by rw[weq.2];simp) (fun h=>hnoa z4 (Jb5.1 h)) hx hdd (by rw[w6.2];simp),by omega⟩
   ·have h0:(e5 == 0)=false:=by rw[beq_eq_false_iff_ne];exact he5
    simp(maxSteps:=9^7) (disch:=omega)only[go_sem,reduceAdd,reduceEqDiff,reduceLeDiff,T1,T4,M2,M5,hf6,h0];refine Dd [(0,true),(2,true),(1,true),(2,false),(3,true),(2,false),(4,true)] (by kernel_rfl) (by kernel_rfl) ?_
    simp(maxSteps:=9^7) (disch:=omega)only[go_sem,reduceLT,reduceAdd,reduceEqDiff,reduceLeDiff,T1,T4,M2,M5,hf2];refine Di (w:=[59]) ht hu fun v e6 p6 hv huv h6=>?_
    simp(maxSteps:=9^7) (disch:=omega)only[go_sem,reduceAdd,reduceEqDiff,reduceLeDiff,stA,stL,T2,T3,T4,M3,M4,M5,hlvq,a0,a1,a2,a3,a4,a5,Bool.and_self];exact V3 _ v e6 p6 hv (by omega) (hfree _ _ _ _ _ _ _ g5) (fun h=>absurd (h6 h).1 he5)
  ·have h0:(e3 == 0)=false:=by rw[beq_eq_false_iff_ne];exact he3
   simp(maxSteps:=9^7) (disch:=omega)only[go_sem,reduceAdd,reduceEqDiff,reduceLeDiff,T1,T4,M2,M5,hf6,h0];refine Dd [(0,true),(2,true),(1,true),(2,false),(3,true),(2,false),(4,true)] (by kernel_rfl) (by kernel_rfl) ?_
   simp(maxSteps:=9^7) (disch:=omega)only[go_sem,reduceLT,reduceAdd,reduceEqDiff,reduceLeDiff,T1,T4,M2,M5,hf2];refine Di (w:=[59]) ht hq fun v e6 p6 hv huv h6=>?_
   simp(maxSteps:=9^7) (disch:=omega)only[go_sem,reduceAdd,reduceEqDiff,reduceLeDiff,stA,stL,T2,T3,T4,M3,M4,M5,hlvq,Bool.and_self];exact V3 _ v e6 p6 hv (by omega) (hfree _ _ _ _ _ _ _ (Z3 0 0 0 [] false)) (fun h=>absurd (h6 h).1 he3)
def eqP0:Code:=match Tryz.f120.body with
 |some (.seq c _)=>c
 |_=>.skip
def eqP1:Code:=match Tryz.f120.body with
 |some (.seq _ (.seq c _))=>c
 |_=>.skip
def eqP2:Code:=match Tryz.f120.body with
 |some (.seq _ (.seq _ (.seq c _)))=>c
 |_=>.skip
def eqP3:Code:=match Tryz.f120.body with
 |some (.seq _ (.seq _ (.seq _ (.seq c _))))=>c
 |_=>.skip
def eqP4:Code:=match Tryz.f120.body with
 |some (.seq _ (.seq _ (.seq _ (.seq _ (.seq c _)))))=>c
 |_=>.skip
def eqP5:Code:=match Tryz.f120.body with
 |some (.seq _ (.seq _ (.seq _ (.seq _ (.seq _ (.seq c _))))))=>c
 |_=>.skip
theorem eq_body:Tryz.f120.body.getD .skip=.seq eqP0 (.seq eqP1 (.seq eqP2 (.seq eqP3 (.seq eqP4 (.seq eqP5 eqTB))))):=by kernel_rfl
theorem eq_nt:Tryz.f120.ntmps=107:=by kernel_rfl
theorem eq_k{ts:List Tk}(ht:Tok3 ts)(i:Nat)(e p:Int)(hi:i<ts.length):Kn3 ts 120 [stA ts i e p]:=by
 refine Jq Tryz.f120 (by kernel_rfl) (by kernel_rfl) (by show(_:Nat)≤_;simp[Tryz.f120]) ?_
 rw[eq_body,eq_nt];have hsz:=ht.size;obtain⟨fn1,hf1⟩:=fX 118;obtain⟨fn2,hf2⟩:=fX 115;simp(disch:=omega)only[go_sem,reduceAdd,reduceEqDiff,reduceLeDiff,eqP0,eqP1,eqP2,eqP3,eqP4,eqP5,Tryz.f120,stA,stL,A2,hf1,Bool.and_self];refine Ey (w:=[40]) hi ?_
 cases hb:isB ts i e [40]with
 |true =>
  obtain⟨rfl,hw⟩:=Dy hb;have hn:=hw.next ht hi;have hw2:=Fl i (by omega)
  have key:=fun t S=>ls_lp ht (i:=i) (bl:=true) (by exact fun _=>⟨fun h=>by rcases hw.1 with h1 |h1 <;> omega,by rw[hw.2];simp⟩) (ts.length+1) (i+1) 0 p .nils [] t S
  unfold lsLB at key;simp only[Tryz.f120]at key;simp(disch:=omega)only[go_sem,reduceAdd,reduceEqDiff,reduceLeDiff,hw2];refine WX.mono (key _ _ (by omega) hn (by omega) En (Nat.zero_le _) ⟨?_,?_,?_,?_,?_,?_,?_,?_,?_,?_,.inl ⟨rfl,rfl⟩⟩ (fun _=>⟨[],rfl,.inl ⟨rfl,rfl⟩⟩)) ?_
  ·simp only[A0,reduceEqDiff,Aa,Ab]
  ·simp only[A0,reduceEqDiff,Aa,Ab]
  ·simp only[A0,reduceEqDiff,Aa,Ab]
  ·simp only[A0,reduceEqDiff,Aa,Ab]
  ·simp only[A0,reduceEqDiff,Aa,Ab]
  ·simp only[A5,Bj,B6,Br,reduceAdd,reduceEqDiff,Aa,Ab] <;> rfl
  ·simp only[A5,Bj,B6,Br,reduceAdd,reduceEqDiff,Aa,Ab] <;> rfl
  ·simp only[A5,Bj,B6,Br,reduceAdd,reduceEqDiff,Aa,Ab] <;> rfl
  ·simp only[A5,Bj,B6,Br,reduceAdd,reduceEqDiff,Aa,Ab] <;> rfl
  ·simp only[Ei,B6,Br];omega
  rintro _ ⟨t',S',rfl,m,e2,p2,lv,es,⟨T1,T2,T3,T4,T5,M2,M3,M4,M5,hnx,LV⟩,hm,him,g,hh⟩;unfold stL at M2;simp(disch:=omega)only[go_sem,reduceAdd,reduceEqDiff,reduceLeDiff,T1,T5,M2,hf2];refine Di (w:=[41]) ht hm fun q e3 p3 hq hmq h3=>?_
  simp(disch:=omega)only[go_sem,reduceAdd,reduceEqDiff,reduceLeDiff,stA,stL,T1,M2,Bool.and_self];refine pG ht i 0 p q e3 p3 lv es _ _ true hi hq (by omega) ⟨by simp only[A0,reduceEqDiff,Ab,T1],by simp only[A0,reduceEqDiff,Ab,T2],by simp only[A0,reduceEqDiff,Ab,T3],by simp only[A0,reduceEqDiff,Ab,T4],by simp only[A0,reduceEqDiff,Ab,T5],?_,?_,?_,?_,?_,?_⟩ g (fun h=>?_)
  ·simp only[A5,Aa];rfl
  ·simp only[A5,reduceEqDiff,Ab];exact M3
  ·simp only[A5,reduceEqDiff,Ab];exact M4
  ·simp only[A5,reduceEqDiff,Ab];exact M5
  ·exact hnx
  ·rcases LV with h | ⟨tok,h1,h2,h3,h4,h5,h6⟩
   ·exact .inl h
   ·exact .inr ⟨tok,h1,h2.keep (Ja1 _) (fun _ _=>by rw[A5,if_neg h3]),h3,h4,h5,h6⟩
  ·obtain⟨z,hwc,rfl⟩:=h3 h
   obtain⟨l,hl,hne,hx⟩:=hh z;have hx:(tk ts m).text∈[[41]]→Px ts i l (m+1):=hx;exact⟨rfl,l,hl,hne,hx (by rw[hwc.2];simp)⟩
 |false =>
  by_cases he:e=0
  ·subst he
   have key:=fun t S=>ls_lp ht (i:=i) (bl:=false) (by exact fun h=>by cases h) (ts.length+1) i 0 p .nils [] t S
   unfold lsLB at key;simp only[Tryz.f120]at key;simp(disch:=omega)only[go_sem,reduceAdd,reduceEqDiff,reduceLeDiff];refine WX.mono (key _ _ (by omega) hi (by omega) En (Nat.zero_le _) ⟨?_,?_,?_,?_,?_,?_,?_,?_,?_,?_,.inl ⟨rfl,rfl⟩⟩ (fun h=>⟨[],rfl,rfl,trivial⟩)) ?_
   ·simp only[A0,reduceEqDiff,Aa,Ab]
   ·simp only[A0,reduceEqDiff,Aa,Ab]
   ·simp only[A0,reduceEqDiff,Aa,Ab]
   ·simp only[A0,reduceEqDiff,Aa,Ab]
   ·simp only[A0,reduceEqDiff,Aa,Ab]
   ·simp only[A5,Bj,B6,Br,reduceAdd,reduceEqDiff,Aa,Ab] <;> rfl
   ·simp only[A5,Bj,B6,Br,reduceAdd,reduceEqDiff,Aa,Ab] <;> rfl
   ·simp only[A5,Bj,B6,Br,reduceAdd,reduceEqDiff,Aa,Ab] <;> rfl
   ·simp only[A5,Bj,B6,Br,reduceAdd,reduceEqDiff,Aa,Ab] <;> rfl
   ·simp only[Ei,B6,Br];omega
   rintro _ ⟨t',S',rfl,m,e2,p2,lv,es,⟨T1,T2,T3,T4,T5,M2,M3,M4,M5,hnx,LV⟩,hm,him,g,hh⟩;unfold stL at M2;simp(disch:=omega)only[go_sem,reduceAdd,reduceEqDiff,reduceLeDiff,T1,T5,M2,hf2];refine pG ht i 0 p m e2 p2 lv es _ _ false hi hm him ⟨by simp only[A0,reduceEqDiff,Ab,T1],by simp only[A0,reduceEqDiff,Ab,T2],by simp only[A0,reduceEqDiff,Ab,T3],by simp only[A0,reduceEqDiff,Ab,T4],by simp only[A0,reduceEqDiff,Ab,T5],M2,M3,M4,M5,hnx,LV⟩ g (fun h=>?_)
   obtain⟨l,hl,hne,hx⟩:=hh h;have hx:Px ts i l m:=hx;exact⟨rfl,l,hl,hne,hx⟩
  ·have h0:(e == 0)=false:=by rw[beq_eq_false_iff_ne];exact he
   simp(disch:=omega)only[go_sem,reduceAdd,reduceEqDiff,reduceLeDiff];refine Bt (Bp ?_);simp(disch:=omega)only[go_sem,reduceAdd,reduceEqDiff,reduceLeDiff,A2,hf2,h0,Bool.and_self];refine pG ht i e p i e p .nils [] _ _ false hi hi (Ja1 _) ⟨?_,?_,?_,?_,?_,?_,?_,?_,?_,?_,.inl ⟨rfl,rfl⟩⟩ En (fun h=>absurd h he)
   ·simp only[A0,reduceEqDiff,Aa,Ab]
   ·simp only[A0,reduceEqDiff,Aa,Ab]
   ·simp only[A0,reduceEqDiff,Aa,Ab]
   ·simp only[A0,reduceEqDiff,Aa,Ab]
   ·simp only[A0,reduceEqDiff,Aa,Ab]
   ·simp only[A5,Bj,B6,Br,reduceAdd,reduceEqDiff,Aa,Ab] <;> rfl
   ·simp only[A5,Bj,B6,Br,reduceAdd,reduceEqDiff,Aa,Ab] <;> rfl
   ·simp only[A5,Bj,B6,Br,reduceAdd,reduceEqDiff,Aa,Ab] <;> rfl
   ·simp only[A5,Bj,B6,Br,reduceAdd,reduceEqDiff,Aa,Ab] <;> rfl
   ·simp only[Ei,B6,Br];omega
def neLB:Code:=match Tryz.f64.body with
 |some (.seq _ (.seq _ (.seq _ (.seq _ (.seq _ (.seq _ (.seq _ (.seq _ (.seq _ (.seq (.block _ (.loop c)) _))))))))))=>c
 |_=>.skip
def qF(ts:List Tk)(l:List PQ)(i:Nat)(r:List PQ)(j:Nat):Prop:=∃n,∀N m,n≤N→n≤m→Oa ts N m l i=.ok r j
theorem eqs_stop{ts:List Tk}{l:List PQ}{i:Nat}(h:(tk ts i).text∈[[116,101,108]]):qF ts l i l i:=by
 refine⟨1,fun N m _ hm=>?_⟩
 obtain⟨q,rfl,hq⟩:=Fw (n:=0) hm;simp only[Oa,if_pos h]
theorem eqs_go{ts:List Tk}{l r:List PQ}{q:PQ}{i j m:Nat}(h:(tk ts i).text ∉ [[116,101,108]])(hq:∃n,∀m,n≤m→eqP ts m i=.ok q j)(h2:qF ts (l ++ [q]) j r m):qF ts l i r m:=by
 obtain⟨n1,e1⟩:=hq;obtain⟨n,hn⟩:=h2;refine⟨n1+n+1,fun N m hN hm=>?_⟩
 obtain⟨q',rfl,hq'⟩:=Fw hm;simp only[Oa,if_neg h,e1 N (by omega),Cj,hn N q' (by omega) (by omega)]
theorem use_eq{ts:List Tk}(ht:Tok3 ts){S:St}{Q:R→Prop}{i:Nat}{e p:Int}(hi:i<ts.length)
  (h:∀(j:Nat) (e' p':Int) (y0 y1 y2 y3 y4 y5 y6 y7:AV),j<ts.length→i≤j→Gd [y0,y1,y2,y3,y4,y5,y6,y7]→(e' = 0→e=0∧∃q,U5 (.agg [y0,y1,y2,y3,y4,y5,y6,y7]) q∧(∃n,∀m,n≤m→eqP ts m i=.ok q j)∧i<j)→Q (.ret (.tup [stA ts j e' p',.agg [y0,y1,y2,y3,y4,y5,y6,y7]]) S)):WC (E3 ts) 120 [stA ts i e p] S Q :=
 P9 (eq_k ht i e p hi) (by kernel_rfl) (fD _ _ _ _) (Wd _ _ _ _) fun a hf hc hs=>by
  obtain⟨j,e',p',y0,y1,y2,y3,y4,y5,y6,y7,rfl,q1,q2,qb,q3⟩:=hs i e p rfl hi;refine h j e' p' y0 y1 y2 y3 y4 y5 y6 y7 q1 q2 (Vk ?_ ?_ qb) q3
  ·have hf:(Bw _ && (C5 _ && true))=true:=hf
   simp only[Bool.and_true,Ja2]at hf;exact hf.2
  ·have hc:AV.tup [clean _,.agg (Be _)]=_:=hc
   injection hc with hc
   injection hc with _ hc
   injection hc with hc _
   injection hc
def NeEnd(ts:List Tk)(E0:Prop)(v0:Nat)(nm:List UInt8)(at_:Int)(v1 v2 v3:AV)(r:O):Prop:=∃t' S',r=.out (.exit 2) ⟨t',[]⟩ S'∧∃(m:Nat) (e2 p2:Int) (v4:AV) (es:List AV),AtN ts m e2 p2 nm at_ v1 v2 v3 v4 t' S'∧DvO 8 S' v4 es∧m<ts.length∧v0≤m∧Gd es∧(e2=0→E0∧∃l:List PQ,EqRows es l∧qF ts [] v0 l m)
theorem ne_lp{ts:List Tk}(ht:Tok3 ts){E0:Prop}{v0:Nat}{nm:List UInt8}{at_:Int}{v1 v2 v3:AV}:∀(d j:Nat) (e1 p1:Int) (v4:AV) (es:List AV) (t:T AV) (S:St),(e1=0→ts.length - j<d)→1≤d→j<ts.length→v0≤j→Gd es→es.length≤ts.length+(if e1=0 then j else ts.length)→(e1=0→es.length≤j)→AtN ts j e1 p1 nm at_ v1 v2 v3 v4 t S→DvO 8 S v4 es →
  (e1=0→E0∧∃l:List PQ,EqRows es l∧∀r m,qF ts l j r m→qF ts [] v0 r m)→WX (E3 ts) 111 (.loop neLB) ⟨t,[]⟩ S (NeEnd ts E0 v0 nm at_ v1 v2 v3)
 |0,j,e1,p1,v4,es,t,S,hd,h1d,_,_,_,_,_,_,_,_=>absurd h1d (by omega)
 |d+1,j,e1,p1,v4,es,t,S,hd,_,hj,hij,g,hel0,hel,⟨T1,T2,T3,T4,M2,M3,M4,M5,hnx⟩,DV,hR=>by
  refine Bt (Bp ?_);have hsz:=ht.size;obtain⟨fn1,hf1⟩:=fX 118;obtain⟨fn2,hf2⟩:=fX 120;unfold stL at M2;unfold A2 at M5;have i2:(2:Nat)=S.next↔False:=⟨fun h=>by omega,fun h=>h.elim⟩
  have i3:(3:Nat)=S.next↔False:=⟨fun h=>by omega,fun h=>h.elim⟩
  have i4:(4:Nat)=S.next↔False:=⟨fun h=>by omega,fun h=>h.elim⟩
  have i5:(5:Nat)=S.next↔False:=⟨fun h=>by omega,fun h=>h.elim⟩
  have j2:S.next=(2:Nat)↔False:=⟨fun h=>by omega,fun h=>h.elim⟩
  have j5:S.next=(5:Nat)↔False:=⟨fun h=>by omega,fun h=>h.elim⟩
  by_cases he:e1=0
  ·subst he
   have h0:((0:Int) == 0)=true:=rfl;have hd:=hd rfl;have hel:=hel rfl;have hlen:es.length≤2000000:=by omega
   obtain⟨hE0,l,hes,hcont⟩:=hR rfl;simp(disch:=omega)only[go_sem,reduceAdd,reduceEqDiff,reduceLeDiff,neLB,Tryz.f64,T1,M2,hf1,h0];refine Ey (w:=[116,101,108]) hj ?_
   cases hb:isB ts j 0 [116,101,108]with
   |true =>
    have hw:=(Dy hb).2;simp(disch:=omega)only[go_sem,reduceAdd,reduceEqDiff,reduceLeDiff,A2,T1,M2,hf2,i2,Bool.and_self];refine⟨_,_,rfl,j,0,p1,v4,es,⟨by simp only[A0,reduceEqDiff,Ab,T1],by simp only[A0,reduceEqDiff,Ab,T2],by simp only[A0,reduceEqDiff,Ab,T3],by simp only[A0,reduceEqDiff,Ab,T4],?_,?_,?_,?_,?_⟩,DV,hj,hij,g,fun _=>⟨hE0,l,hes,hcont _ _ (eqs_stop (by rw[hw.2];simp))⟩⟩
    ·exact M2
    ·exact M3
    ·exact M4
    ·exact M5
    ·exact hnx
   |false =>
    have hno:=G6 ht hj hb (by decide)
    simp(disch:=omega)only[go_sem,reduceAdd,reduceEqDiff,reduceLeDiff,A2,T1,M2,hf2,i2,Bool.and_self];refine use_eq ht hj fun m e2 p2 y0 y1 y2 y3 y4 y5 y6 y7 hm hjm g2 h2=>?_
    simp(disch:=omega)only[go_sem,reduceAdd,reduceEqDiff,reduceLeDiff,stA,stL,T1,T4,M2,M5,i2,i5,j2,Bool.and_self];generalize hS1:((((S.newBox [.nils,.v (.bool false),.v (.int .i64 0),.v (.int .i64 0),.v (.int .i64 0),.v (.string ⟨⟨[]⟩⟩),.v (.bool false),.nils]).to S.next [.nils,.v (.bool false),.v (.int .i64 0),.v (.int .i64 0),.v (.int .i64 0),.v (.string ⟨⟨[]⟩⟩),.v (.bool false),.nils]).to 2 [lvA ts,.v (.int .i64 (m:Int)),.v (.int .i64 e2),.v (.int .i64 p2)]).to S.next [y0,y1,y2,y3,y4,y5,y6,y7])=S1;have n1:S1.next=S.next+1:=by rw[← hS1];rfl
    have m12:S1.mem.get 2=some (.box (stL ts m e2 p2)):=by
     rw[← hS1];simp only[A5,Bj,Aa,Ab,i2];rfl
    have m13:S1.mem.get 3=some (.box [.nils,.v (.int .i64 0),.v (.int .i64 0),.v (.int .i64 0)]):=by
     rw[← hS1];simp only[A5,Bj,reduceEqDiff,Ab,i3,M3]
    have m14:S1.mem.get 4=some (.box [.v (.string ⟨⟨[]⟩⟩),.v (.int .i64 0),.nils,.nils,.nils,.nils]):=by
     rw[← hS1];simp only[A5,Bj,reduceEqDiff,Ab,i4,M4]
    have m15:S1.mem.get 5=some (.box [.v (.string ⟨⟨nm⟩⟩),.v (.int .i64 at_),v1,v2,v3,v4]):=by
     rw[← hS1];simp only[A5,Bj,reduceEqDiff,Ab,i5,M5]
    have dv1:DvO 8 S1 v4 es:=H0 DV (by omega) (fun id h6 hlt=>by
     have q1:¬ id=S.next:=by omega
     have q2:¬ id=2:=by omega
     rw[← hS1]
     simp only[A5,Bj,if_neg q1,if_neg q2])
    obtain⟨bytes,hrt⟩:=yt43;obtain⟨S2,happ,dv2,n2,k2⟩:=Pm (ts:=ts) hrt dv1 (by omega) (.agg [y0,y1,y2,y3,y4,y5,y6,y7]) rfl hlen
    have m22:=(k2 2 (by omega) (by omega)).trans m12
    have m23:=(k2 3 (by omega) (by omega)).trans m13
    have m24:=(k2 4 (by omega) (by omega)).trans m14
    have m25:=(k2 5 (by omega) (by omega)).trans m15
    unfold stL at m22;simp(disch:=omega)only[go_sem,reduceAdd,reduceEqDiff,reduceLeDiff,T4,happ,m25]
    refine ne_lp ht d m e2 p2 (.sl S1.next 0 8 (es ++ [.agg [y0,y1,y2,y3,y4,y5,y6,y7]])) (es ++ [.agg [y0,y1,y2,y3,y4,y5,y6,y7]]) _ _ (fun h=>?_) (by omega) hm (by omega) (J9 g (Ed g2 En)) (by rw[Ja3];show es.length+1≤_;split <;> omega) (fun h=>by
     obtain⟨q,_,_,hq⟩:=(h2 h).2
     rw[Ja3];show es.length+1≤_;omega) ⟨by simp only[A0,reduceEqDiff,Ab,T1],by simp only[A0,reduceEqDiff,Ab,T2],by simp only[A0,reduceEqDiff,Ab,T3],by simp only[A0,reduceEqDiff,Ab,T4],?_,?_,?_,?_,?_⟩ (H0 (S:=S2) dv2 (Ja1 S2.next) (fun id h6 _=>by rw[A5,if_neg (by omega)])) (fun h=>?_)
    ·have:=(h2 h).2
     obtain⟨q,_,_,hq⟩:=this;omega
    ·simp only[A5,reduceEqDiff,Ab];exact m22
    ·simp only[A5,reduceEqDiff,Ab];exact m23
    ·simp only[A5,reduceEqDiff,Ab];exact m24
    ·simp only[A5,Aa] <;> rfl
    ·show 6≤S2.next
     omega
    ·obtain⟨_,q,hq,hqP,hlt⟩:=h2 h
     exact⟨hE0,l ++ [q],hes.app hq,fun r m' hr=>hcont r m' (eqs_go (fun h=>hno (Jb5.1 h)) hqP hr)⟩
  ·have h0:(e1 == 0)=false:=by rw[beq_eq_false_iff_ne];exact he
   simp(disch:=omega)only[go_sem,reduceAdd,reduceEqDiff,reduceLeDiff,neLB,Tryz.f64,A2,T1,M2,hf1,hf2,h0,i2,Bool.and_self];refine⟨_,_,rfl,j,e1,p1,v4,es,⟨by simp only[A0,reduceEqDiff,Ab,T1],by simp only[A0,reduceEqDiff,Ab,T2],by simp only[A0,reduceEqDiff,Ab,T3],by simp only[A0,reduceEqDiff,Ab,T4],?_,?_,?_,?_,?_⟩,DV,hj,hij,g,fun h=>absurd h he⟩
   ·exact M2
   ·exact M3
   ·exact M4
   ·exact M5
   ·exact hnx
end Go.Ax
