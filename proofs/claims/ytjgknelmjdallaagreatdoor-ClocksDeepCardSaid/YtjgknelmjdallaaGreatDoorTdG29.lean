/- Jl -/
import Derived.Test.YtjgknelmjdallaaGreatDoorTdG28
import Derived.OpenShut
set_option linter.unusedVariables false
set_option linter.unusedSimpArgs false
set_option maxHeartbeats 16000000
noncomputable section
namespace Go.Ax
open Go.RowKit Go.Proofs
set_option maxRecDepth 100000
def cT (i:Nat):List UInt8:=if i=0 then [98] else [116,114,117,101]
theorem cT_len (i:Nat):(cT i).length ≤ 4:=by unfold cT; split <;> decide
theorem eqs_step (all:List Bool) (wrong:Int) (n i:Nat) (h:i < n) (hn:n ≤ all.length):L9 (R4 wrong i ((all.take n).drop i))=dR wrong i all[i] ++ L9 (R4 wrong (i + 1) ((all.take n).drop (i + 1))):=by
 have hl:(all.take n).length=n:=by rw [List.length_take]; omega
 have hd:(all.take n).drop i=all[i] :: (all.take n).drop (i + 1):=by
  rw [List.drop_eq_getElem_cons (by omega)]
  simp
 rw [hd,rE]
theorem eqs_last (all:List Bool) (wrong:Int) (n:Nat) (hn:n ≤ all.length):L9 (R4 wrong n ((all.take n).drop n))=tN n ++ [32,61,32,53,59,32,121,32,61,32,116,48,59,32]:=by
 have hl:(all.take n).length=n:=by rw [List.length_take]; omega
 rw [List.drop_of_length_le (by omega),wT]
theorem beq31:Gj (.fn (.func 31) [] []) (.fn (.func 31) [] [])=true:=by kernel_rfl
def LoopQ (q n:Nat) (wrong:Int) (V Q:List UInt8) (S:St) (r:O):Prop:=∃ (t':T AV) (X:List UInt8),r=.out (.exit 2) ⟨t',[]⟩ S ∧ t'.get 1=some (.v (.int .i64 wrong)) ∧ t'.get 5=some (.v (.int .i64 (n:Int))) ∧ t'.get 6=some (.ptr q 0) ∧ t'.get 7=some (.v (.string ⟨⟨V⟩⟩)) ∧ t'.get 8=some (.v (.string ⟨⟨X⟩⟩)) ∧ X ++ (tN n ++ [32,61,32,53,59,32,121,32,61,32,116,48,59,32])=Q
theorem dk_lp2 {na:AV} {all:List Bool} (hn:Qq na all) (n:Nat) (h9n:n ≤ 9) (hle:n ≤ all.length) (wrong:Int) (q:Nat) (V Q:List UInt8) (hQ:Q.length ≤ 1000):∀ (m i:Nat) (t:T AV) (S:St) (X:List UInt8),i + m=n → S.mem.get q=some (.box [Zw]) → t.get 1=some (.v (.int .i64 wrong)) → t.get 2=some (.ep [na]) → t.get 5=some (.v (.int .i64 (n:Int))) → t.get 6=some (.ptr q 0) → t.get 7=some (.v (.string ⟨⟨V⟩⟩)) → t.get 8=some (.v (.string ⟨⟨X⟩⟩)) → t.get 11=some (.v (.string ⟨⟨cT i⟩⟩)) → t.get 56=some (.v (.int .i64 (n:Int))) → t.get 57=some (.v (.int .i64 (i:Int))) → X ++ L9 (R4 wrong i ((all.take n).drop i))=Q → WX E11 133 (.loop dkL2) ⟨t,[]⟩ S (LoopQ q n wrong V Q S)
 | 0,i,t,S,X,him,hq,h1,h2,h5,h6,h7,h8,h11,h56,h57,hX=>by
  refine Do (Dh ?_)
  obtain rfl:i=n:=by omega
  rw [eqs_last all wrong i hle] at hX
  have hno:¬ ((i:Int) < (i:Int)):=by omega
  simp only [Bv,Bo,A6,Bk,Bl,Bq,C1,A4,Ci,Be,A7,A9,A8,B6,A5,Bc,Ba,A0,ofOpt,Bs,Cu,Nat.reduceLT,Nat.reduceEqDiff,Aa,Ab,Ac,Am,Aq,Fe,dkL2,Qd,Tryz.f9,h56,h57,hno]
  exact ⟨_,_,rfl,by simp only [A0,A1,Nat.reduceEqDiff,Aa,Ab,h1],by simp only [A0,A1,Nat.reduceEqDiff,Aa,Ab,h5],by simp only [A0,A1,Nat.reduceEqDiff,Aa,Ab,h6],by simp only [A0,A1,Nat.reduceEqDiff,Aa,Ab,h7],by simp only [A0,A1,Nat.reduceEqDiff,Aa,Ab,h8],hX⟩
 | m + 1,i,t,S,X,him,hq,h1,h2,h5,h6,h7,h8,h11,h56,h57,hX=>by
  refine Do (Dh ?_)
  obtain ⟨fn1,hf31⟩:=qU
  have lf:Cd Tryz.prog S 39 (.ptr q 0)=some (.fn (.func 31) [] []):=by rw [ldc39,hq]; rfl
  rw [eqs_step all wrong n i (by omega) hle] at hX
  have hlt:((i:Int) < (n:Int)):=by omega
  have hw:IntKind.i64.wrap ((i:Int) + 1)=((i + 1:Nat):Int):=by rw [IntKind.wrap_i64]; omega
  have hC:=fun S=>nmC i (by omega) S
  have hT:=fun S=>nmT i (by omega) S
  have hT2:=fun S=>nmT (i + 1) (by omega) S
  have lT:(tN i).length=2:=rfl
  have lT2:(tN (i + 1)).length=2:=rfl
  have lC:(cN i).length=2:=rfl
  have lc:=cT_len i
  have lS:=side_len wrong i all[i]
  have lX:X.length ≤ 1000:=by have:=congrArg List.length hX; rw [List.length_append] at this; omega
  have key:=fun t' X'=>dk_lp2 hn n h9n hle wrong q V Q hQ m (i + 1) t' S X' (by omega) hq
  have l71:=ld71e S na
  have ix:=ix71r hn i (by omega)
  have lb:=ld4epz S all[i]
  have hr:dR wrong i all[i]=(((cN i ++ [32,61,32]) ++ cT i) ++ [59,32]) ++ ((((((((tN i ++ [32,61,32,109,101,114,103,101,32]) ++ cN i) ++ [32,40]) ++ bW wrong i all[i]) ++ [41,32,40]) ++ bV wrong i all[i]) ++ [41,59,32])):=rfl
  rw [hr] at hX
  have hsA:bW wrong i all[i]=if (all[i] != decide (wrong=(i:Int)))=true then [48] else tN (i + 1):=rfl
  have hsB:bV wrong i all[i]=if (all[i] != decide (wrong=(i:Int)))=true then tN (i + 1) else [48]:=rfl
  have hc1:cT (i + 1)=[116,114,117,101]:=if_neg (Nat.succ_ne_zero i)
  rw [hc1] at key
  generalize L9 (R4 wrong (i + 1) ((all.take n).drop (i + 1)))=R at hX key
  generalize bW wrong i all[i]=A at hX hsA lS
  generalize bV wrong i all[i]=B at hX hsB lS
  generalize tN (i + 1)=Tm at hT2 lT2 hsA hsB
  generalize tN i=Tn at hX hT lT
  generalize cN i=Cn at hX hC lC
  generalize cT i=Cc at hX h11 lc
  have c64:=Cr Cn [32,61,32] (by simp only [List.length_cons,List.length_nil]; omega)
  have c66:=Cr (Cn ++ [32,61,32]) Cc (by simp only [List.length_append,List.length_cons,List.length_nil]; omega)
  have c67:=Cr ((Cn ++ [32,61,32]) ++ Cc) [59,32] (by simp only [List.length_append,List.length_cons,List.length_nil]; omega)
  have c68:=Cr X (((Cn ++ [32,61,32]) ++ Cc) ++ [59,32]) (by simp only [List.length_append,List.length_cons,List.length_nil]; omega)
  generalize hX1:X ++ (((Cn ++ [32,61,32]) ++ Cc) ++ [59,32])=X1 at c68
  have lX1:X1.length ≤ 1100:=by rw [← hX1]; simp only [List.length_append,List.length_cons,List.length_nil]; omega
  have c88:=Cr Tn [32,61,32,109,101,114,103,101,32] (by simp only [List.length_cons,List.length_nil]; omega)
  have c92:=Cr (Tn ++ [32,61,32,109,101,114,103,101,32]) Cn (by simp only [List.length_append,List.length_cons,List.length_nil]; omega)
  have c93:=Cr ((Tn ++ [32,61,32,109,101,114,103,101,32]) ++ Cn) [32,40] (by simp only [List.length_append,List.length_cons,List.length_nil]; omega)
  generalize hP:((Tn ++ [32,61,32,109,101,114,103,101,32]) ++ Cn) ++ [32,40]=P at c93 hX
  have lP:P.length ≤ 20:=by rw [← hP]; simp only [List.length_append,List.length_cons,List.length_nil]; omega
  have c95:=Cr P A (by omega)
  have c96:=Cr (P ++ A) [41,32,40] (by simp only [List.length_append,List.length_cons,List.length_nil]; omega)
  have c98:=Cr ((P ++ A) ++ [41,32,40]) B (by simp only [List.length_append,List.length_cons,List.length_nil]; omega)
  have c99:=Cr (((P ++ A) ++ [41,32,40]) ++ B) [41,59,32] (by simp only [List.length_append,List.length_cons,List.length_nil]; omega)
  have c100:=Cr X1 ((((P ++ A) ++ [41,32,40]) ++ B) ++ [41,59,32]) (by simp only [List.length_append,List.length_cons,List.length_nil]; omega)
  generalize hX2:X1 ++ ((((P ++ A) ++ [41,32,40]) ++ B) ++ [41,59,32])=X2 at c100
  have hX3:X2 ++ R=Q:=by rw [← hX2,← hX1,← hX]; simp only [List.append_assoc]
  unfold Rw at ix lb
  generalize all[i]=o at ix lb hsA hsB
  simp only [Bv,Bo,A6,Bk,Bl,Bq,C1,A4,Ci,Be,A7,A9,By,A8,B8,A5,Bc,Ba,A0,Bm,B5,ofOpt,Bb,Bs,Cu,Nat.reduceLT,Nat.reduceEqDiff,Aa,Ab,Ac,Aj,Ak,Am,Ap,Fe,dkL2,Qd,Tryz.f9,h6,h8,h56,h57,lf,hf31,hlt]
  refine WC.mono (hC S) ?_
  rintro _ rfl
  simp only [A6,Bk,A4,Be,A7,A9,By,A8,Cj,A5,Bc,Ba,A0,Bm,B5,ofOpt,Bb,Bs,Dg,Nat.reduceLT,Nat.reduceEqDiff,Aa,Ab,Ac,Aj,Ak,Am,Fe,Cy,h6,h11,lf,hf31,c64,c66,c67,c68,hw]
  refine WC.mono (hT2 S) ?_
  rintro _ rfl
  by_cases hwr:wrong=(i:Int)
  ·have hbe:(wrong == (i:Int))=true:=by rw [hwr]; exact beq_self_eq_true _
   rw [decide_eq_true hwr] at hsA hsB
   cases o
   all_goals
    first | (obtain rfl:=hsA.trans (if_pos rfl); obtain rfl:=hsB.trans (if_pos rfl)) | (obtain rfl:=hsA.trans (if_neg (by decide)); obtain rfl:=hsB.trans (if_neg (by decide)))
    simp only [Bo,A6,Co,Bk,Bl,A4,Be,A7,A9,A8,Cj,B8,B6,A5,Bc,Ba,A0,ofOpt,Bb,Bs,B9,Nat.reduceLT,Nat.reduceEqDiff,Aa,Ab,Ac,Am,Fe,h1,h2,l71,ix,lb,hbe]
    refine Fv [(0,true),(1,true),(2,true),(5,true),(6,true),(10,true),(13,true),(3,true),(5,false),(4,true),(7,true),(8,true),(9,true),(11,true),(12,true),(14,true),(15,true),(16,true),(17,true)] (by kernel_rfl) (by kernel_rfl) ?_
    simp only [A5,Bc,Ba,A0,Bm,B5,ofOpt,Bb,Nat.reduceLT,Nat.reduceEqDiff,Aa,Ab,Ac,Af,Ag,Ah,Aj,Ak,Am,Fe,h6,h8,lf,hf31,Dr,Ct,C3,B7,F4]
    refine WC.mono (hT S) ?_
    rintro _ rfl
    simp only [A5,Bc,Ba,A0,Bm,B5,ofOpt,Bb,Nat.reduceLT,Nat.reduceEqDiff,Aa,Ab,Ac,Aj,Ak,Am,Fe,Cy,h6,lf,hf31,beq31,c88,Dr,F3,Ct,C3,B7,Dl,D6,Em]
    refine WC.mono (hC S) ?_
    rintro _ rfl
    simp only [Bw,A6,A4,Bn,Be,A7,A9,A8,A5,Bc,Ba,A0,ofOpt,Bb,Bs,Dg,Nat.reduceLT,Nat.reduceEqDiff,Aa,Ab,Ac,Am,Fe,Cy,h57,c92,c93,c95,c96,c98,c99,c100,hw,D9,Dr,Ct,B7,Dl,Dj]
    refine key _ X2 ?_ ?_ ?_ ?_ ?_ ?_ ?_ ?_ ?_ hX3
    ·simp only [A0,A1,Nat.reduceEqDiff,Aa,Ab,h1]
    ·simp only [A0,A1,Nat.reduceEqDiff,Aa,Ab,h2]
    ·simp only [A0,A1,Nat.reduceEqDiff,Aa,Ab,h5]
    ·simp only [A0,A1,Nat.reduceEqDiff,Aa,Ab,h6]
    ·simp only [A0,A1,Nat.reduceEqDiff,Aa,Ab,h7]
    ·simp only [A0,A1,Nat.reduceEqDiff,Aa,Ab]
    ·simp only [A0,A1,Nat.reduceEqDiff,Aa,Ab]
    ·simp only [A0,A1,Nat.reduceEqDiff,Aa,Ab,h56]
    ·simp only [A0,A1,Nat.reduceEqDiff,Aa,Ab]
  ·have hbe:(wrong == (i:Int))=false:=beq_eq_false_iff_ne.2 hwr
   rw [decide_eq_false hwr] at hsA hsB
   cases o
   all_goals
    first | (obtain rfl:=hsA.trans (if_pos rfl); obtain rfl:=hsB.trans (if_pos rfl)) | (obtain rfl:=hsA.trans (if_neg (by decide)); obtain rfl:=hsB.trans (if_neg (by decide)))
    simp only [Bo,A6,Co,Bk,Bl,A4,Be,A7,A9,A8,Cj,B8,B6,A5,Bc,Ba,A0,ofOpt,Bb,Bs,B9,Nat.reduceLT,Nat.reduceEqDiff,Aa,Ab,Ac,Am,Fe,h1,h2,l71,ix,lb,hbe]
    refine Fv [(0,true),(1,true),(2,true),(5,true),(6,true),(10,true),(13,true),(3,true),(5,false),(4,true),(7,true),(8,true),(9,true),(11,true),(12,true),(14,true),(15,true),(16,true),(17,true)] (by kernel_rfl) (by kernel_rfl) ?_
    simp only [A5,Bc,Ba,A0,Bm,B5,ofOpt,Bb,Nat.reduceLT,Nat.reduceEqDiff,Aa,Ab,Ac,Af,Ag,Ah,Aj,Ak,Am,Fe,h6,h8,lf,hf31,Dr,Ct,C3,B7,F4]
    refine WC.mono (hT S) ?_
    rintro _ rfl
    simp only [A5,Bc,Ba,A0,Bm,B5,ofOpt,Bb,Nat.reduceLT,Nat.reduceEqDiff,Aa,Ab,Ac,Aj,Ak,Am,Fe,Cy,h6,lf,hf31,beq31,c88,Dr,F3,Ct,C3,B7,Dl,D6,Em]
    refine WC.mono (hC S) ?_
    rintro _ rfl
    simp only [Bw,A6,A4,Bn,Be,A7,A9,A8,A5,Bc,Ba,A0,ofOpt,Bb,Bs,Dg,Nat.reduceLT,Nat.reduceEqDiff,Aa,Ab,Ac,Am,Fe,Cy,h57,c92,c93,c95,c96,c98,c99,c100,hw,D9,Dr,Ct,B7,Dl,Dj]
    refine key _ X2 ?_ ?_ ?_ ?_ ?_ ?_ ?_ ?_ ?_ hX3
    ·simp only [A0,A1,Nat.reduceEqDiff,Aa,Ab,h1]
    ·simp only [A0,A1,Nat.reduceEqDiff,Aa,Ab,h2]
    ·simp only [A0,A1,Nat.reduceEqDiff,Aa,Ab,h5]
    ·simp only [A0,A1,Nat.reduceEqDiff,Aa,Ab,h6]
    ·simp only [A0,A1,Nat.reduceEqDiff,Aa,Ab,h7]
    ·simp only [A0,A1,Nat.reduceEqDiff,Aa,Ab]
    ·simp only [A0,A1,Nat.reduceEqDiff,Aa,Ab]
    ·simp only [A0,A1,Nat.reduceEqDiff,Aa,Ab,h56]
    ·simp only [A0,A1,Nat.reduceEqDiff,Aa,Ab]
theorem fnw_19:∃ fn,E11.F 19=some fn:=Option.isSome_iff_exists.1 (by kernel_rfl)
theorem fnw_33:∃ fn,E11.F 33=some fn:=Option.isSome_iff_exists.1 (by kernel_rfl)
def EndsDk (r:O):Prop:=∃ f' S',r=.out .ret ⟨f',[]⟩ S' ∧ f'.get 4=some (.v (.bool true))
theorem dk_tail (offs:List Bool) (h9:offs.length ≤ 9) (wrong:Int) (X:List UInt8) (q:Nat) (t:T AV) (S:St) (hq:S.mem.get q=some (.box [Zw])) (h1:t.get 1=some (.v (.int .i64 wrong))) (h5:t.get 5=some (.v (.int .i64 (offs.length:Int)))) (h6:t.get 6=some (.ptr q 0)) (h7:t.get 7=some (.v (.string ⟨⟨Ht (Ju 0 ([],false) offs)⟩⟩))) (h8:t.get 8=some (.v (.string ⟨⟨X⟩⟩))) (hX:X ++ (tN offs.length ++ [32,61,32,53,59,32,121,32,61,32,116,48,59,32])=L9 (R4 wrong 0 offs)):W E11 133 dkTail ⟨t,[]⟩ S EndsDk:=by
 obtain ⟨fn1,hf31⟩:=qU
 obtain ⟨fn2,hf19⟩:=fnw_19
 obtain ⟨fn3,hf33⟩:=fnw_33
 have lf:Cd Tryz.prog S 39 (.ptr q 0)=some (.fn (.func 31) [] []):=by rw [ldc39,hq]; rfl
 have hC:=checkKd offs h9 wrong
 obtain ⟨us,ms,hu,hread,hlike⟩:=textKd_read offs h9 wrong
 have hlen:=nL offs h9 wrong
 have lV:=Tc offs 0 ([],false) (.inl rfl)
 have lQ:=Ze wrong offs 0
 have hT:=fun S=>nmT offs.length (by omega) S
 have lT:(tN offs.length).length=2:=rfl
 have l1:cD.length ≤ 200:=by decide
 have l2:qC.length ≤ 200:=by decide
 have l3:telK.length ≤ 200:=by decide
 have htx:((((cD ++ Ht (Ju 0 ([],false) offs)) ++ qC) ++ L9 (R4 wrong 0 offs)) ++ telK)=Vs offs wrong:=rfl
 generalize Ht (Ju 0 ([],false) offs)=V at h7 lV htx
 generalize L9 (R4 wrong 0 offs)=Q at hX lQ htx
 have lX:X.length ≤ 1000:=by have:=congrArg List.length hX; rw [List.length_append] at this; omega
 generalize tN offs.length=Tn at hX hT lT
 have c106:=Cr Tn [32,61,32,53,59,32,121,32,61,32,116,48,59,32] (by simp only [List.length_cons,List.length_nil]; omega)
 have c107:=Cr X (Tn ++ [32,61,32,53,59,32,121,32,61,32,116,48,59,32]) (by simp only [List.length_append,List.length_cons,List.length_nil]; omega)
 rw [hX] at c107
 have c1:Ej .add (.v (.string ⟨⟨[110,111,100,101,32,102,40,98,58,32,98,111,111,108,41,32,114,101,116,117,114,110,115,32,40,121,58,32,105,110,116,41,32,118,97,114,32]⟩⟩)) (.v (.string ⟨⟨V⟩⟩))=some (.v (.string ⟨⟨cD ++ V⟩⟩)):=Cr cD V (by omega)
 have c2:Ej .add (.v (.string ⟨⟨cD ++ V⟩⟩)) (.v (.string ⟨⟨[108,101,116,32]⟩⟩))=some (.v (.string ⟨⟨(cD ++ V) ++ qC⟩⟩)):=Cr (cD ++ V) qC (by simp only [List.length_append]; omega)
 have c3:=Cr ((cD ++ V) ++ qC) Q (by simp only [List.length_append]; omega)
 have c4:Ej .add (.v (.string ⟨⟨((cD ++ V) ++ qC) ++ Q⟩⟩)) (.v (.string ⟨⟨[116,101,108]⟩⟩))=some (.v (.string ⟨⟨(((cD ++ V) ++ qC) ++ Q) ++ telK⟩⟩)):=Cr (((cD ++ V) ++ qC) ++ Q) telK (by simp only [List.length_append]; omega)
 simp only [A6,Bk,A7,A9,By,A8,A5,Bc,Ba,A0,Bm,B5,ofOpt,Bb,Nat.reduceLT,Nat.reduceEqDiff,Aa,Ab,Ac,Aj,Ak,Fe,dkTail,Qd,Tryz.f9,h5,h6,h8,lf,hf31]
 refine WC.mono (hT S) ?_
 rintro _ rfl
 simp only [A6,Bk,A4,Be,A7,A9,By,A8,Cj,A5,Bc,Ba,A0,Bm,B5,ofOpt,Bb,Nat.reduceLT,Nat.reduceEqDiff,Aa,Ab,Ac,Aj,Ak,Am,Fe,Cy,c106,c107,h7,h8,c1,c2,c3,c4,hf19]
 rw [htx]
 refine i11_19 _ _ _ ?_
 have hpc:L6 [.v (.string ⟨⟨Vs offs wrong⟩⟩)] S=L6 [Bt (Vs offs wrong)] S:=rfl
 rw [hpc]
 rcases lU (l:=Vs offs wrong) (by omega) hu S with ⟨ns2,v,hr2,hp2,hi2⟩ | ⟨q2,hr2,hp2⟩
 ·have he:ns2=ms:=by rw [hread] at hr2; injection hr2 with hr2; injection hr2 with hr2; exact hr2.symm
  subst he
  rw [hp2]
  have q1:=P2 (Cv S (Ds 0 0)) rfl (rfl:(Ds 0 0).length=2)
  have q2:=Io (S.newBox (Ds 0 0)) S.next (Ds 0 0) rfl
  generalize hS4:(S.newBox (Ds 0 0)).put S.next (Ds 0 0)=S4 at q1 q2
  simp only [Bo,A6,Bk,Bl,B1,A4,B4,Be,A7,A9,C4,By,Df,A8,Cj,B6,A5,Bc,Ba,A0,Bm,B5,ofOpt,ofOptS,Bb,Bz,Nat.reduceLT,Nat.reduceEqDiff,Aa,Ab,Ac,Ag,Ah,Aj,Ak,Am,Fe,Sw,zM,fb33,q1,q2,Ov,bd33,Cw,eq7nz,hf33]
  refine WC.mono (hC ns2 v S4 hlike hi2) ?_
  rintro _ ⟨a,e,S5,rfl,hfit⟩
  have e33:=fun f S o=>eq7e f S o a e
  rw [hfit] at e33
  by_cases k0:wrong < 0
  ·have hd:decide (0 ≤ wrong ∧ wrong < (offs.length:Int))=false:=by rw [decide_eq_false]; omega
   rw [hd] at e33
   simp only [B1,A4,Be,A7,C0,A9,A8,Cj,A5,Bc,Ba,A0,ofOpt,Bb,Bz,Bs,Cu,Nat.reduceLT,Nat.reduceEqDiff,Aa,Ab,Ac,Af,Ag,Ah,Ai,Al,Am,Ap,Au,Aw,Fe,Sw,zM,fbe33,h1,h5,bd33,e33,k0,Kk,Ma,Ll,Kn]
   exact ⟨_,_,rfl,by simp only [A0,Nat.reduceEqDiff,Ab,Aa]; try rfl⟩
  ·by_cases k1:wrong ≥ (offs.length:Int)
   ·have hd:decide (0 ≤ wrong ∧ wrong < (offs.length:Int))=false:=by rw [decide_eq_false]; omega
    rw [hd] at e33
    simp only [B1,A4,Be,A7,A9,A8,Cj,A5,Bc,Ba,A0,ofOpt,Bb,Bz,Bs,Cu,E3,Nat.reduceLT,Nat.reduceEqDiff,Aa,Ab,Ac,Af,Ag,Ah,Ai,Al,Am,Ap,Aq,Au,Fe,Sw,zM,fbe33,h1,h5,bd33,e33,k0,k1,Kk,Ma,Ll,Kn]
    exact ⟨_,_,rfl,by simp only [A0,Nat.reduceEqDiff,Ab,Aa]; try rfl⟩
   ·have hd:decide (0 ≤ wrong ∧ wrong < (offs.length:Int))=true:=by rw [decide_eq_true]; omega
    rw [hd] at e33
    simp only [B1,A4,Be,A7,A9,A8,Cj,A5,Bc,Ba,A0,ofOpt,Bb,Bz,Bs,Cu,E3,Nat.reduceLT,Nat.reduceEqDiff,Aa,Ab,Ac,Af,Ag,Ah,Ai,Al,Am,Aq,Ar,Fe,Sw,zM,fbe33,h1,h5,bd33,e33,k0,k1,Kk,Ma,Ll,Kn]
    exact ⟨_,_,rfl,by simp only [A0,Nat.reduceEqDiff,Ab,Aa]; try rfl⟩
 ·rw [hread] at hr2; injection hr2 with hr2; cases hr2
theorem al39:∃ z,∀ S,Js Tryz.prog S 39=some (.ptr S.next 0,S.newBox [z]):=⟨_,fun S=>rfl⟩
theorem len71 {na:AV} {all:List Bool} (hn:Qq na all) (S:St):Fw Tryz.prog S 71 na=some all.length:=by
 rcases hn with ⟨rfl,rfl⟩ | ⟨tok,off,rfl⟩
 ·simp [Fw,un71]
 ·simp [Fw,un71]
theorem varsLn1_le (l:List Bool) (h:l.length ≤ 9):(Ht (Ju 0 ([],false) l)).length ≤ 1000:=by
 have:=Tc l 0 ([],false) (.inl rfl)
 omega
theorem eqsLn_le (wrong:Int) (l:List Bool) (h:l.length ≤ 9):(L9 (R4 wrong 0 l)).length ≤ 1000:=by
 have:=Ze wrong l 0
 omega
theorem dk_rest (wrong:Int) (na:AV) (all:List Bool) (hn:Qq na all) (t:T AV) (S:St) (h1:t.get 1=some (.v (.int .i64 wrong))) (h2:t.get 2=some (.ep [na])):W E11 133 Qd ⟨t,[]⟩ S EndsDk:=by
 rw [dkRest_is]
 generalize hN:min 9 all.length=N
 have hlenN:(all.take N).length=N:=by rw [List.length_take]; omega
 have h9N:N ≤ 9:=by omega
 have hle:N ≤ all.length:=by omega
 have hmin:(if (9:Int) < (all.length:Int) then (9:Int) else (all.length:Int))=(N:Int):=by
  split <;> omega
 have hw:IntKind.i64.wrap ((N:Int) + 1)=((N + 1:Nat):Int):=by rw [IntKind.wrap_i64]; omega
 obtain ⟨z,hz⟩:=al39
 have a39:=hz S
 have s39:Dt Tryz.prog (S.newBox [z]) 39 (.ptr S.next 0) (.fn (.func 31) [] [])=some ((S.newBox [z]).put S.next [Zw]):=yM (by kernel_rfl) (S.newBox [z]) S.next 0 (.fn (.func 31) [] []) [z] rfl (Cv S [z]) (Nat.succ_pos 0)
 have hq:((S.newBox [z]).put S.next [Zw]).mem.get S.next=some (.box [Zw]):=by show ((S.newBox [z]).mem.set S.next (some (.box [Zw]))).get S.next=_; rw [T.get_set,if_pos rfl]
 have l71:=ld71e S na
 have hl0:=len71 hn S
 have key0:=fun t' S' hq'=>dk_lp0 hn N h9N hle wrong S.next _ (varsLn1_le (all.take N) (by omega)) N 0 t' S' [] (by omega) hq'
 have key2:=fun V t' S' hq'=>dk_lp2 hn N h9N hle wrong S.next V _ (eqsLn_le wrong (all.take N) (by omega)) N 0 t' S' [] (by omega) hq'
 have tail:=fun X t' S' hq'=>dk_tail (all.take N) (by omega) wrong X S.next t' S' hq'
 rw [hlenN] at tail
 generalize ((S.newBox [z]).put S.next [Zw])=S1 at s39 hq
 generalize S.next=q at a39 s39 hq key0 key2 tail
 simp only [A6,Bk,Bq,Dx,A4,Be,A7,A9,C4,Df,A8,A5,Bc,Ba,A0,Bm,B5,ofOpt,ofOptS,Bb,Bs,Dg,Nat.reduceLT,Nat.reduceEqDiff,Aa,Ab,Ac,Am,Fe,Sw,dkR,Qd,Tryz.f9,h2,l71,hl0,Q6,dA,hmin,a39,s39,hw]
 refine WX.mono (key0 _ S1 hq ?_ ?_ ?_ ?_ ?_ ?_ ?_ ?_ ?_ ?_) ?_
 ·simp only [A0,A1,Nat.reduceEqDiff,Aa,Ab,h1]
 ·simp only [A0,A1,Nat.reduceEqDiff,Aa,Ab,h2]
 ·simp only [A0,A1,Nat.reduceEqDiff,Aa,Ab]; try rfl
 ·simp only [A0,A1,Nat.reduceEqDiff,Aa,Ab]; try rfl
 ·simp only [A0,A1,Nat.reduceEqDiff,Aa,Ab]; try rfl
 ·simp only [A0,A1,Nat.reduceEqDiff,Aa,Ab]; try rfl
 ·simp only [A0,A1,Nat.reduceEqDiff,Aa,Ab]; try rfl
 ·simp only [A0,A1,Nat.reduceEqDiff,Aa,Ab]; try rfl
 ·simp only [A0,A1,Nat.reduceEqDiff,Aa,Ab]; try rfl
 ·rfl
 rintro _ ⟨t1,rfl,g1,g2,g5,g6,g7,g8⟩
 simp only [A6,Bk,Bq,Dx,A4,Ci,Da,Be,A7,A9,A8,A5,Bc,Ba,A0,ofOpt,Bb,Nat.reduceLT,Nat.reduceEqDiff,Aa,Ab,Ac,g5]
 refine WX.mono (key2 (Ht (Ju 0 ([],false) (all.take N))) _ S1 hq ?_ ?_ ?_ ?_ ?_ ?_ ?_ ?_ ?_ ?_) ?_
 ·simp only [A0,A1,Nat.reduceEqDiff,Aa,Ab,g1]
 ·simp only [A0,A1,Nat.reduceEqDiff,Aa,Ab,g2]
 ·simp only [A0,A1,Nat.reduceEqDiff,Aa,Ab,g5]
 ·simp only [A0,A1,Nat.reduceEqDiff,Aa,Ab,g6]
 ·simp only [A0,A1,Nat.reduceEqDiff,Aa,Ab,g7]
 ·simp only [A0,A1,Nat.reduceEqDiff,Aa,Ab,g8]; try rfl
 ·simp only [A0,A1,Nat.reduceEqDiff,Aa,Ab]; try rfl
 ·simp only [A0,A1,Nat.reduceEqDiff,Aa,Ab]; try rfl
 ·simp only [A0,A1,Nat.reduceEqDiff,Aa,Ab]; try rfl
 ·rfl
 rintro _ ⟨t2,X,rfl,k1,k5,k6,k7,k8,hX⟩
 simp only [A4,Ci,Da,Aa]
 exact tail X t2 S1 hq k1 k5 k6 k7 k8 hX
theorem ep71 {w1:World} {b:Nat} {na:AV} {v:Value} {all:List Bool} (hn:Qq na all) (hc:∀ j,w1.cell? ⟨b,0 + j,none⟩=#[v][j]?) (hlt:b < w1.heap.size) (hv:VR (GhW w1) w1 na v):VR (GhW w1) w1 (.ep [na]) (.pointer (some ⟨b,0,none⟩)):=by
 refine .ep _ b 0 (fun j=>[v].getD j undef) (fun j hj=>?_) (fun c hc=>?_) (fun j hj=>?_)
 ·have h1:j < 1:=hj
  have e:w1.cell? ⟨b,0 + j,none⟩=some ([v].getD j undef):=by
   rw [hc j]
   match j,h1 with
   | 0,_=>rfl
  exact ⟨⟨hlt,_,e⟩,e⟩
 ·obtain rfl:=List.mem_singleton.1 hc
  rcases hn with ⟨rfl,_⟩ | ⟨tok,off,rfl⟩ <;> rfl
 ·have h1:j < 1:=hj
  match j,h1 with
  | 0,_=>exact hv
theorem dk_awake (w:World):Calls Tryz.prog 30 #[] w fun e w'=>e=.returned (.bool true) ∧ Below w.heap.size w w' :=
 Yj (E:=E0) e0_ok e0_intr e0_mix rfl (m:=2000) (k:=30) (args:=[]) (by kernel_rfl) (by kernel_rfl) (vs:=[]) ⟨rfl,fun k hk=>by cases hk⟩
theorem dk_any (a:Option Addr) (l c:Nat) (x1:Int) (w:World) (h0:BoolsIn w (.slice a l c)) (hr:RngIn w) (hp:PowIn w):Calls Tryz.prog 9 #[.slice a l c,.int .i64 x1] w fun x w'=>x=.returned (.bool true) ∧ Below w.heap.size w w':=by
 have HG:=Lib.hid (g7_of hr hp); clear hr hp
 obtain ⟨all,na,hn,hna⟩:=h0
 go_enter Tryz.func9,Tryz.ntmps9
 refine wp_seq_k fun K0 h0=>?_
 have H0:=Lib.hid h0; clear h0
 go_wp2_with fail
 refine H0.out _ _ ?_
 clear H0 K0
 refine wp_seq_k fun K1 h1=>?_
 have H1:=Lib.hid h1; clear h1
 go_wp2_with fail
 refine (dk_awake _).mono ?_
 rintro x w1 ⟨rfl,hb1⟩
 go_wp2_with fail
 refine H1.out _ _ ?_
 clear H1 K1
 have b0:Below w.heap.size w (w.alloc (Obj.cells #[Value.slice a l c] 71)):=(Below.refl _ _).alloc (Nat.le_refl _) _
 have e1:∀ j,(w.alloc (Obj.cells #[Value.slice a l c] 71)).cell? ⟨w.heap.size,j,none⟩=#[Value.slice a l c][j]?:=fun j=>World.cell?_alloc_new w _ 71 j
 have s1:(w.alloc (Obj.cells #[Value.slice a l c] 71)).heap.size=w.heap.size + 1:=by show (w.heap.push _).size=_; simp
 generalize w.alloc (Obj.cells #[Value.slice a l c] 71)=wa at *
 have hc1:∀ j,w1.cell? ⟨w.heap.size,0 + j,none⟩=#[Value.slice a l c][j]?:=fun j=>by
  rw [hb1.cell (p:=⟨w.heap.size,0 + j,none⟩) (by show w.heap.size < wa.heap.size; omega),Nat.zero_add]
  exact e1 j
 have hsz1:=hb1.size
 have hb:Below w.heap.size w w1:=b0.trans (hb1.mono (by omega))
 have hv1:=ep71 hn hc1 (by omega) (hna w1 hb)
 have hg:GR (GhW w1) w1 G7:=HG.out.mono (Vg hb)
 have hW:=dk_rest x1 na all hn ((T.leaf.set 1 (some (.v (.int .i64 x1)))).set 2 (some (.ep [na]))) St0 (by rw [T.get_set,if_neg (by decide),T.get_set,if_pos rfl]) (by rw [T.get_set,if_pos rfl])
 refine codeWG (c:=Qd) (E:=E11) e11_ok e11_intr e11_mix (t:=4) hW (SR.whole w1) hg ?_ rfl rfl ?_
 ·intro t a h
  rw [T.get_set,T.get_set] at h
  split at h
  ·rename_i e; subst e
   injection h with h; subst h
   exact ⟨(show 2 < 133 by decide),hv1⟩
  ·split at h
   ·rename_i e; subst e
    injection h with h; subst h
    exact ⟨(show 1 < 133 by decide),.v _ rfl⟩
   ·cases h
 intro act' w' hsz hd ht hb3
 refine ⟨hd,.bool true,?_,rfl,hb.trans (hb3.mono (by omega))⟩
 have h4:act'.tmps.getD 4 undef=.bool true:=by simp [Array.getD_eq_getD_getElem?,ht]
 simp [results,Tryz.f9,h4,go_sem,ht]
end Go.Ax
