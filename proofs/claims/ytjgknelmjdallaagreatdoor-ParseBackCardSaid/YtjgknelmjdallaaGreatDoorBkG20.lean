/- Rh -/
import Derived.Test.YtjgknelmjdallaaGreatDoorBkG19
set_option linter.unusedVariables false
set_option linter.unusedSimpArgs false
noncomputable section
namespace Go.Ax
open Go.RowKit Go.Proofs
set_option maxRecDepth 100000
theorem Yr (b:Nat):C9 Tryz.prog 30 (.ptr b 0) 5=some (.ptr b 5):=by kernel_rfl
theorem ag2:Fm Tryz.prog 2=some false:=by kernel_rfl
theorem ag9:Fm Tryz.prog 9=some false:=by kernel_rfl
theorem ag4:Fm Tryz.prog 4=some false:=by kernel_rfl
section
variable {S:St} {id kind pos:Nat} {n:Int} {name:List UInt8} {off:Bool} {kv:AV} (h:S.mem.get id=some (.box (exC kind pos n name off kv)))
include h
theorem lxN:C3 Tryz.prog S 2 (.ptr id 2)=some (.v (.int .i64 n)):=by simp [C3,Dr,h,ag2,exC]
theorem E3:C3 Tryz.prog S 9 (.ptr id 3)=some (.v (.string ⟨⟨name⟩⟩)):=by simp [C3,Dr,h,ag9,exC,Bp]
theorem Ga:C3 Tryz.prog S 4 (.ptr id 4)=some (.v (.bool off)):=by simp [C3,Dr,h,ag4,exC]
end
set_option maxHeartbeats 16000000 in
theorem binds_w (kind pos:Nat) (n:Int) (name:List UInt8) (off:Bool) (kv:AV) (kids:List PE) (S:St):WC E6 86 [.agg (exC kind pos n name off kv)] S (fun r=>∃ S',r=.ret (D0 (Dh (.mk kind pos n name off kids))) S' ∧ Eg S S'):=by
 refine Dx Tryz.f86 (by kernel_rfl) (by kernel_rfl) (by kernel_rfl) (show (_:Nat) ≤ _ from by show (_:Nat) ≤ _; simp [Tryz.f86]) ?_
 obtain ⟨fn1,hf1⟩:=fn6_87
 have g1:=Db S (exC kind pos n name off kv)
 have k1:=C4 S (exC kind pos n name off kv)
 generalize hS1:S.newBox (exC kind pos n name off kv)=S1 at g1 k1
 have l0:=Jn g1
 have l2:=lxN g1
 have l3:=E3 g1
 by_cases h1:kind=1
 ·subst h1
  have e1:(((1:Nat):Int) == 1)=true:=rfl
  by_cases hn:n < 0
  ·have en:decide (n < 0)=true:=by simpa using hn
   simp only [Br,A6,Bl,Bq,Bt,Bw,A4,B0,Bs,Bz,Bh,A7,Bj,Cb,Bi,Ci,A5,Bc,Ba,Cc,A0,A1,Bo,B5,ofOpt,Bb,Bv,Bg,By,Bf,Cl,Dd,B7,Nat.reduceLT,Nat.reduceEqDiff,Aa,Ab,Ac,Ae,Aj,Ak,Am,E9,Dq,Tryz.f86,hf1,hS1,l0,l2,l3,fe0,fe2,fe3,Cd,Ce,e1,en]
   exact ⟨_,by rw [show Dh (.mk 1 pos n name off kids)=8 by simp [Dh,hn]]; rfl,k1⟩
  ·have en:decide (n < 0)=false:=by simpa using hn
   simp only [Br,A6,Bl,Bq,Bt,Bw,A4,B0,Bs,Bz,Bh,A7,Bj,Cb,Bi,Ci,Cg,A5,Bc,Ba,Cc,A0,A1,Bo,B5,ofOpt,Bb,Bv,Bg,By,Bf,Cl,Dd,B7,Nat.reduceLT,Nat.reduceEqDiff,Aa,Ab,Ac,Ae,Aj,Ak,Am,E9,Dq,Tryz.f86,hf1,hS1,l0,l2,l3,fe0,fe2,fe3,Cd,Ce,e1,en]
   exact ⟨_,by rw [show Dh (.mk 1 pos n name off kids)=10 by simp [Dh,hn]]; rfl,k1⟩
 by_cases h4:kind=4
 ·subst h4
  have e1:(((4:Nat):Int) == 1)=false:=rfl
  have e4:(((4:Nat):Int) == 4)=true:=rfl
  simp only [Br,A6,Bl,Bq,Bt,Bw,A4,B0,Bs,Bz,Bh,A7,Bj,Cb,Bi,Ci,Cg,A5,Bc,Ba,Cc,A0,A1,Bo,B5,ofOpt,Bb,Bv,Bg,By,Bf,Cl,Dd,B7,Nat.reduceLT,Nat.reduceEqDiff,Aa,Ab,Ac,Ae,Aj,Ak,Am,E9,Dq,Tryz.f86,hf1,hS1,l0,l2,l3,fe0,fe2,fe3,Cd,Ce,e1,e4]
  exact ⟨_,by rw [show Dh (.mk 4 pos n name off kids)=8 by simp [Dh]]; rfl,k1⟩
 by_cases h10:kind=10
 ·subst h10
  have e1:(((10:Nat):Int) == 1)=false:=rfl
  have e4:(((10:Nat):Int) == 4)=false:=rfl
  have e10:(((10:Nat):Int) == 10)=true:=rfl
  simp only [Br,A6,Bl,Bq,Bt,Bw,A4,B0,Bs,Bz,Bh,A7,Bj,Cb,Bi,Ci,Cg,A5,Bc,Ba,Cc,A0,A1,Bo,B5,ofOpt,Bb,Bv,Bg,By,Bf,Cl,Dd,B7,Nat.reduceLT,Nat.reduceEqDiff,Aa,Ab,Ac,Ae,Aj,Ak,Am,E9,Dq,Tryz.f86,hf1,hS1,l0,l2,l3,fe0,fe2,fe3,Cd,Ce,e1,e4,e10]
  exact ⟨_,by rw [show Dh (.mk 10 pos n name off kids)=8 by simp [Dh]]; rfl,k1⟩
 by_cases h5:kind=5
 ·subst h5
  have e1:(((5:Nat):Int) == 1)=false:=rfl
  have e4:(((5:Nat):Int) == 4)=false:=rfl
  have e10:(((5:Nat):Int) == 10)=false:=rfl
  have e5:(((5:Nat):Int) == 5)=true:=rfl
  simp only [Br,A6,Bl,Bq,Bt,Bw,A4,B0,Bs,Bz,Bh,A7,Bj,Cb,Bi,Ci,Cg,A5,Bc,Ba,Cc,A0,A1,Bo,B5,ofOpt,Bb,Bv,Bg,By,Bf,Cl,Dd,B7,Nat.reduceLT,Nat.reduceEqDiff,Aa,Ab,Ac,Ae,Aj,Ak,Am,E9,Dq,Tryz.f86,hf1,hS1,l0,l2,l3,fe0,fe2,fe3,Cd,Ce,e1,e4,e10,e5]
  exact ⟨_,by rw [show Dh (.mk 5 pos n name off kids)=4 by simp [Dh]]; rfl,k1⟩
 by_cases h6:kind=6
 ·subst h6
  have e1:(((6:Nat):Int) == 1)=false:=rfl
  have e4:(((6:Nat):Int) == 4)=false:=rfl
  have e10:(((6:Nat):Int) == 10)=false:=rfl
  have e5:(((6:Nat):Int) == 5)=false:=rfl
  have e6:(((6:Nat):Int) == 6)=true:=rfl
  simp only [Br,A6,Bl,Bq,Bt,Bw,A4,B0,Bs,Bz,Bh,A7,Bj,Cb,Bi,Ci,Cg,A5,Bc,Ba,Cc,A0,A1,Bo,B5,ofOpt,Bb,Bv,Bg,By,Bf,Cl,Dd,B7,Nat.reduceLT,Nat.reduceEqDiff,Aa,Ab,Ac,Ae,Aj,Ak,Am,E9,Dq,Tryz.f86,hf1,hS1,l0,l2,l3,fe0,fe2,fe3,Cd,Ce,e1,e4,e10,e5,e6]
  refine WC.mono (xV name S1) ?_
  rintro _ rfl
  simp only [Bw,A4,B0,Bz,Bh,A7,Bj,Bi,Cz,A5,Bc,Ba,A0,A1,ofOpt,Bg,By,Bf,Cl,Nat.reduceLT,Nat.reduceEqDiff,Aa,Ab,Ac]
  exact ⟨_,by rw [show Dh (.mk 6 pos n name off kids)=F1 name by simp [Dh]],k1⟩
 by_cases h7:kind=7
 ·subst h7
  have e1:(((7:Nat):Int) == 1)=false:=rfl
  have e4:(((7:Nat):Int) == 4)=false:=rfl
  have e10:(((7:Nat):Int) == 10)=false:=rfl
  have e5:(((7:Nat):Int) == 5)=false:=rfl
  have e6:(((7:Nat):Int) == 6)=false:=rfl
  have e7:(((7:Nat):Int) == 7)=true:=rfl
  simp only [Br,A6,Bl,Bq,Bt,Bw,A4,B0,Bs,Bz,Bh,A7,Bj,Cb,Bi,Ci,Cg,A5,Bc,Ba,Cc,A0,A1,Bo,B5,ofOpt,Bb,Bv,Bg,By,Bf,Cl,Dd,B7,Nat.reduceLT,Nat.reduceEqDiff,Aa,Ab,Ac,Ae,Aj,Ak,Am,E9,Dq,Tryz.f86,hf1,hS1,l0,l2,l3,fe0,fe2,fe3,Cd,Ce,e1,e4,e10,e5,e6,e7]
  exact ⟨_,by rw [show Dh (.mk 7 pos n name off kids)=0 by simp [Dh]]; rfl,k1⟩
 by_cases h8:kind=8
 ·subst h8
  have e1:(((8:Nat):Int) == 1)=false:=rfl
  have e4:(((8:Nat):Int) == 4)=false:=rfl
  have e10:(((8:Nat):Int) == 10)=false:=rfl
  have e5:(((8:Nat):Int) == 5)=false:=rfl
  have e6:(((8:Nat):Int) == 6)=false:=rfl
  have e7:(((8:Nat):Int) == 7)=false:=rfl
  have e8:(((8:Nat):Int) == 8)=true:=rfl
  simp only [Br,A6,Bl,Bq,Bt,Bw,A4,B0,Bs,Bz,Bh,A7,Bj,Cb,Bi,Ci,Cg,A5,Bc,Ba,Cc,A0,A1,Bo,B5,ofOpt,Bb,Bv,Bg,By,Bf,Cl,Dd,B7,Nat.reduceLT,Nat.reduceEqDiff,Aa,Ab,Ac,Ae,Aj,Ak,Am,E9,Dq,Tryz.f86,hf1,hS1,l0,l2,l3,fe0,fe2,fe3,Cd,Ce,e1,e4,e10,e5,e6,e7,e8]
  exact ⟨_,by rw [show Dh (.mk 8 pos n name off kids)=1 by simp [Dh]]; rfl,k1⟩
 by_cases h9:kind=9
 ·subst h9
  have e1:(((9:Nat):Int) == 1)=false:=rfl
  have e4:(((9:Nat):Int) == 4)=false:=rfl
  have e10:(((9:Nat):Int) == 10)=false:=rfl
  have e5:(((9:Nat):Int) == 5)=false:=rfl
  have e6:(((9:Nat):Int) == 6)=false:=rfl
  have e7:(((9:Nat):Int) == 7)=false:=rfl
  have e8:(((9:Nat):Int) == 8)=false:=rfl
  have e9:(((9:Nat):Int) == 9)=true:=rfl
  simp only [Br,A6,Bl,Bq,Bt,Bw,A4,B0,Bs,Bz,Bh,A7,Bj,Cb,Bi,Ci,Cg,A5,Bc,Ba,Cc,A0,A1,Bo,B5,ofOpt,Bb,Bv,Bg,By,Bf,Cl,Dd,B7,Nat.reduceLT,Nat.reduceEqDiff,Aa,Ab,Ac,Ae,Aj,Ak,Am,E9,Dq,Tryz.f86,hf1,hS1,l0,l2,l3,fe0,fe2,fe3,Cd,Ce,e1,e4,e10,e5,e6,e7,e8,e9]
  exact ⟨_,by rw [show Dh (.mk 9 pos n name off kids)=1 by simp [Dh]]; rfl,k1⟩
 by_cases h11:kind=11
 ·subst h11
  have e1:(((11:Nat):Int) == 1)=false:=rfl
  have e4:(((11:Nat):Int) == 4)=false:=rfl
  have e10:(((11:Nat):Int) == 10)=false:=rfl
  have e5:(((11:Nat):Int) == 5)=false:=rfl
  have e6:(((11:Nat):Int) == 6)=false:=rfl
  have e7:(((11:Nat):Int) == 7)=false:=rfl
  have e8:(((11:Nat):Int) == 8)=false:=rfl
  have e9:(((11:Nat):Int) == 9)=false:=rfl
  have e11:(((11:Nat):Int) == 11)=true:=rfl
  simp only [Br,A6,Bl,Bq,Bt,Bw,A4,B0,Bs,Bz,Bh,A7,Bj,Cb,Bi,Ci,Cg,A5,Bc,Ba,Cc,A0,A1,Bo,B5,ofOpt,Bb,Bv,Bg,By,Bf,Cl,Dd,B7,Nat.reduceLT,Nat.reduceEqDiff,Aa,Ab,Ac,Ae,Aj,Ak,Am,E9,Dq,Tryz.f86,hf1,hS1,l0,l2,l3,fe0,fe2,fe3,Cd,Ce,e1,e4,e10,e5,e6,e7,e8,e9,e11]
  exact ⟨_,by rw [show Dh (.mk 11 pos n name off kids)=9 by simp [Dh]]; rfl,k1⟩
 have e1:((kind:Int) == 1)=false:=by rw [beq_eq_false_iff_ne]; omega
 have e4:((kind:Int) == 4)=false:=by rw [beq_eq_false_iff_ne]; omega
 have e10:((kind:Int) == 10)=false:=by rw [beq_eq_false_iff_ne]; omega
 have e5:((kind:Int) == 5)=false:=by rw [beq_eq_false_iff_ne]; omega
 have e6:((kind:Int) == 6)=false:=by rw [beq_eq_false_iff_ne]; omega
 have e7:((kind:Int) == 7)=false:=by rw [beq_eq_false_iff_ne]; omega
 have e8:((kind:Int) == 8)=false:=by rw [beq_eq_false_iff_ne]; omega
 have e9:((kind:Int) == 9)=false:=by rw [beq_eq_false_iff_ne]; omega
 have e11:((kind:Int) == 11)=false:=by rw [beq_eq_false_iff_ne]; omega
 simp only [Br,A6,Bl,Bq,Bt,Bw,A4,B0,Bs,Bz,Bh,A7,Bj,Cb,Bi,Cg,A5,Bc,Ba,Cc,A0,A1,Bo,B5,ofOpt,Bb,Bv,Bg,By,Bf,Cl,Dd,B7,Nat.reduceLT,Nat.reduceEqDiff,Aa,Ab,Ac,Ae,Aj,Ak,Am,E9,Dq,Tryz.f86,hf1,hS1,l0,l2,l3,fe0,fe2,fe3,Cd,Ce,e1,e4,e10,e5,e6,e7,e8,e9,e11]
 exact ⟨_,by rw [show Dh (.mk kind pos n name off kids)=10 by simp [Dh,h1,h4,h10,h5,h6,h7,h8,h9,h11]]; rfl,k1⟩
def Ty (e:PE):Prop:=∀ (ys:List AV),RepE (.agg ys) e → ∀ S,2 ≤ S.next → WC E6 17 [.agg ys] S (fun r=>∃ S',r=.ret (Bp (Dz e)) S' ∧ Eg S S')
theorem RepF.at:∀ {es:List AV} {l:List PE},RepF es l → ∀ (j:Nat) (h:j < es.length) (h2:j < l.length),RepE es[j] l[j]
 | _,_,.cons a e r l h h2,0,_,_=>h
 | _,_,.cons a e r l h h2,j + 1,k1,k2=>RepF.at h2 j (by simpa using k1) (by simpa using k2)
set_option maxHeartbeats 16000000 in
theorem Nf {kind pos:Nat} {n:Int} {name:List UInt8} {off:Bool} {kv:AV} {kids:List PE} (hk:RepK kv kids) (hlen:kids.length ≤ 2000000) (i least:Nat) (hok:∀ e ∈ kids,Ty e) (hz:Mw (De kids) ≤ 1000000000) (S:St) (hn2:2 ≤ S.next) :
  WC E6 51 [.agg (exC kind pos n name off kv),.v (.int .i64 (i:Int)),.v (.int .i64 (least:Int))] S (fun r=>∃ S',r=.ret (Bp (kT (De kids) i least)) S' ∧ Eg S S'):=by
 refine Dx Tryz.f51 (by kernel_rfl) (by kernel_rfl) (by kernel_rfl) (show (_:Nat) ≤ _ from by show (_:Nat) ≤ _; simp [Tryz.f51]) ?_
 obtain ⟨fn1,hf1⟩:=fn6_17
 obtain ⟨fn2,hf2⟩:=fn6_86
 have g1:=Db S (exC kind pos n name off kv)
 have k1:=C4 S (exC kind pos n name off kv)
 have lt1:S.next < (S.newBox (exC kind pos n name off kv)).next:=Nat.lt_succ_self _
 generalize hS1:S.newBox (exC kind pos n name off kv)=S1 at g1 k1 lt1
 have l5:=Qw g1
 have ek:(De kids)[i]? = (kids[i]?).map fun e=>⟨Dz e,Dh e,I4 e⟩:=by rw [Uh,List.getElem?_map]
 cases hk with
 | nil =>
  have hge:((i:Int) ≥ 0):=by omega
  have hd:decide ((i:Int) ≥ 0)=true:=decide_eq_true hge
  simp only [Br,A6,Bl,Bq,Bw,A4,B0,Bh,A7,Bj,Bi,A5,Bc,Ba,Cc,A0,A1,Bo,ofOpt,Bb,Bv,Bg,By,Bf,Cl,Er,Nat.reduceLT,Nat.reduceAdd,Nat.reduceEqDiff,Aa,Ab,Ac,Ae,Am,E9,Tryz.f51,hS1,Cd,Ce,Yr,l5,Vm]
  exact ⟨_,rfl,k1⟩
 | row tok o es _ hf =>
  have hl:=hf.len
  by_cases hi:i < kids.length
  ·have hie:i < es.length:=by omega
   have hd:decide ((i:Int) ≥ (es.length:Int))=false:=decide_eq_false (by omega)
   have hr:=hf.at i hie hi
   obtain ⟨ys,hy,hyl⟩:=hr.agg
   rw [hy] at hr
   have q1:=rI tok o es i hie ys hy
   have q2:=zN S1 ys hyl
   simp only [Br,A6,Bl,Bq,Bw,A4,B0,Bh,A7,Bj,Cb,Bi,Cg,A5,Bc,Ba,Cc,A0,A1,Bo,B5,ofOpt,Bb,Bv,Bg,By,Bf,Cl,Er,Nat.reduceLT,Nat.reduceAdd,Nat.reduceEqDiff,Aa,Ab,Ac,Ae,Aj,Ak,Am,E9,Tryz.f51,hf1,hS1,Cd,Ce,Yr,l5,U3,hd,q1,q2]
   refine WC.mono (hok _ (List.getElem_mem hi) ys hr S1 (by omega)) ?_
   rintro _ ⟨S2,rfl,k2⟩
   have g2:S2.mem.get S.next=some (.box (exC kind pos n name off (.sl tok o 6 es))):=(k2.2 _ lt1).trans g1
   have l6:=Qw g2
   have q3:=zN S2 ys hyl
   have hr':=hr
   obtain ⟨kd,ps,nn,nm,of,ks2,hkk⟩:∃ kd ps nn nm of ks2,kids[i]=.mk kd ps nn nm of ks2:=by cases h:kids[i]; exact ⟨_,_,_,_,_,_,rfl⟩
   rw [hkk] at hr'
   have e1:(De kids)[i]? = some ⟨Dz kids[i],Dh kids[i],I4 kids[i]⟩:=by rw [ek,List.getElem?_eq_getElem hi]; rfl
   have hzk:=Tc (De kids) i 11
   have e2:kT (De kids) i 11=if Dh kids[i] < 11 then 40 :: (Dz kids[i] ++ [41]) else Dz kids[i]:=by unfold kT; rw [e1]
   have hzt:(Dz kids[i]).length ≤ 1000000000:=by
    rw [e2] at hzk
    split at hzk
    ·simp only [List.length_cons,List.length_append] at hzk; omega
    ·omega
   cases hr' with
   | mk _ _ _ _ _ kv2 _ hk2 =>
   simp only [A6,Bl,A4,Bh,A7,Bj,Cb,Bi,Cz,A5,Bc,Ba,A0,A1,Bo,B5,ofOpt,Nat.reduceLT,Nat.reduceEqDiff,Aa,Ab,Ac,Aj,Ak,E9,hf2,Yr,l6,q1,q3]
   have hb:=binds_w kd ps nn nm of kv2 ks2 S2
   rw [← hkk] at hb
   refine WC.mono hb ?_
   rintro _ ⟨S3,rfl,k3⟩
   have q4:=C5 [40] (Dz kids[i]) (by simp; omega)
   have q5:=C5 ([40] ++ Dz kids[i]) [41] (by simp; omega)
   have eT:kT (De kids) i least=if Dh kids[i] < least then 40 :: (Dz kids[i] ++ [41]) else Dz kids[i]:=by unfold kT; rw [e1]
   rw [eT]
   by_cases hb:Dh kids[i] < least
   ·have d1:decide (((Dh kids[i]:Nat):Int) < (least:Int))=true:=decide_eq_true (by omega)
    simp only [Br,A6,Bl,Bq,Bw,A4,B0,Bh,A7,Bj,Bi,Cz,Ci,A5,Bc,Ba,A0,A1,ofOpt,Bb,Bv,Bg,By,Bf,Cl,Dd,Nat.reduceLT,Nat.reduceEqDiff,Aa,Ab,Ac,Am,E9,Cy,d1,q4,q5,D0,Bp]
    exact ⟨_,by rw [if_pos hb]; rfl,(k1.trans k2).trans k3⟩
   ·have d1:decide (((Dh kids[i]:Nat):Int) < (least:Int))=false:=decide_eq_false (by omega)
    simp only [Br,A6,Bl,Bq,Bw,A4,Bh,A7,Bj,Bi,Cz,Cg,A5,Bc,Ba,A0,A1,ofOpt,Bb,Bv,Bg,By,Bf,Cl,Dd,Nat.reduceLT,Nat.reduceEqDiff,Aa,Ab,Ac,Am,E9,Xf,Cy,d1,D0,Bp]
    exact ⟨_,by rw [if_neg hb],(k1.trans k2).trans k3⟩
  ·have hd:decide ((i:Int) ≥ (es.length:Int))=true:=decide_eq_true (by omega)
   have eT:kT (De kids) i least=[]:=by unfold kT; rw [ek,List.getElem?_eq_none (by omega)]; rfl
   rw [eT]
   simp only [Br,A6,Bl,Bq,Bw,A4,B0,Bh,A7,Bj,Bi,Ci,A5,Bc,Ba,Cc,A0,A1,Bo,ofOpt,Bb,Bv,Bg,By,Bf,Cl,Er,Nat.reduceLT,Nat.reduceAdd,Nat.reduceEqDiff,Aa,Ab,Ac,Ae,Am,E9,Tryz.f51,hS1,Cd,Ce,Yr,l5,U3,hd]
   exact ⟨_,rfl,k1⟩
end Go.Ax
noncomputable section
namespace Go.Ax
open Go.RowKit Go.Proofs
set_option maxRecDepth 100000
noncomputable def G9:Code → Option Code
 | .loop c=>some c
 | .seq a b=>match G9 a with
  | some x=>some x
  | none=>G9 b
 | .cond _ a b=>match G9 a with
  | some x=>some x
  | none=>G9 b
 | .block _ c=>G9 c
 | _=>none
def Y7 (lo:Nat) (S:St) (a:AV) (es:List AV):Prop:=(a=.nils ∧ es=[]) ∨ ∃ tok,2 ≤ tok ∧ lo ≤ tok ∧ tok < S.next ∧ a=.sl tok 0 1 es ∧ S.mem.get tok=some (.tip es.length)
theorem Y7.keep {lo:Nat} {S S':St} {a:AV} {es:List AV} (h:Y7 lo S a es) (k:Eg S S'):Y7 lo S' a es:=by
 rcases h with h | ⟨tok,h1,h2,h3,h4,h5⟩
 ·exact .inl h
 ·exact .inr ⟨tok,h1,h2,Nat.lt_of_lt_of_le h3 k.1,h4,by rw [k.2 tok h3]; exact h5⟩
theorem el69:Ir Tryz.prog 69=some (none,9):=by kernel_rfl
theorem un69:Tryz.prog.underlying 69=some (.slice 9):=by kernel_rfl
theorem i9:(Tryz.prog.info? 9).map (fun i=>(i.zero,i.size,i.bytes))=some (some (.string ⟨#[]⟩),1,16):=by kernel_rfl
theorem sz9:Fo Tryz.prog 9=some 1:=by kernel_rfl
theorem zr9:Mb Tryz.prog 9=some (.v (.string ⟨#[]⟩)):=by kernel_rfl
theorem row69 (x:List UInt8):Dv Tryz.prog 69 1 [(0,.v (.string ⟨⟨x⟩⟩))]=some (.sl 1 0 1 [.v (.string ⟨⟨x⟩⟩)]):=by
 have h1:(AV.v (.string ⟨⟨x⟩⟩)).noTup=true:=rfl
 simp [Dv,el69,sz9,zr9,h1,AV.cells]
theorem app69 (S:St) (a b:AV):Hu E6 S 69 69 a b=Fk Tryz.prog S 69 69 a b:=rfl
theorem uK {lo:Nat} {S:St} {a:AV} {es:List AV} (h:Y7 lo S a es) (hn:2 ≤ S.next) (hlo:lo ≤ S.next) (x:List UInt8) (hl:es.length ≤ 2000000) :
  ∃ S',Hu E6 S 69 69 a (.sl 1 0 1 [.v (.string ⟨⟨x⟩⟩)])=some (.sl S.next 0 1 (es ++ [.v (.string ⟨⟨x⟩⟩)]),S') ∧ Y7 lo S' (.sl S.next 0 1 (es ++ [.v (.string ⟨⟨x⟩⟩)])) (es ++ [.v (.string ⟨⟨x⟩⟩)]) ∧ S.next ≤ S'.next ∧ ∀ id,id < lo → S'.mem.get id=S.mem.get id:=by
 obtain ⟨i,hi,hz0,hz1,hz2⟩:=Hl i9
 have hb1:(es.length + 1) * 16 ≤ 140737488355328:=by omega
 have hb2:es.length + 1 ≤ 9223372036854775807:=by omega
 rw [app69]
 rcases h with ⟨rfl,rfl⟩ | ⟨tok,h1,h2,h3,rfl,h5⟩
 ·refine ⟨S.grown 1 1,?_,.inr ⟨S.next,hn,hlo,Nat.lt_succ_self _,rfl,?_⟩,Nat.le_succ _,fun id hid=>?_⟩
  ·simp [Fk,el69,hi,hz0,hz1,hz2,L7,un69,Value.cells]
  ·show (S.mem.set S.next _).get S.next=_
   rw [T.get_set,if_pos rfl]; rfl
  ·show (S.mem.set S.next _).get id=_
   rw [T.get_set,if_neg (by omega)]
 ·obtain ⟨k,rfl⟩:∃ k,tok=k + 2:=⟨tok - 2,by omega⟩
  refine ⟨S.grown (k + 2) ((es ++ [AV.v (.string ⟨⟨x⟩⟩)]).length * 1),?_,.inr ⟨S.next,hn,hlo,Nat.lt_succ_self _,rfl,?_⟩,Nat.le_succ _,fun id hid=>?_⟩
  ·simp [Fk,el69,hi,hz0,hz1,hz2,L7,un69,Value.cells,N8,h5,hb1,hb2]
  ·show ((S.mem.set (k + 2) none).set S.next _).get S.next=_
   rw [T.get_set,if_pos rfl,Nat.mul_one]
  ·show ((S.mem.set (k + 2) none).set S.next _).get id=_
   rw [T.get_set,if_neg (by omega),T.get_set,if_neg (by omega)]
theorem bI:∀ (ws:List (List UInt8)),Vb (ws.map Bp)=some ws
 | []=>rfl
 | w :: r=>by
  show (match Vb (r.map Bp) with | some l=>some (w :: l) | none=>none)=_
  rw [bI r]
theorem vI {lo:Nat} {S:St} {a:AV} {ws:List (List UInt8)} (h:Y7 lo S a (ws.map Bp)) (sep:List UInt8) (hl:ws.length ≤ 1000000) (hz:(Lib.join ws sep).length ≤ 1000000000):WC E6 88 [a,.v (.string ⟨⟨sep⟩⟩)] S (fun r=>r=.ret (Bp (Lib.join ws sep)) S):=by
 refine Lp (g:=F4 Zs) (by kernel_rfl) ?_
 rcases h with ⟨rfl,h2⟩ | ⟨tok,_,_,_,rfl,_⟩
 ·have:ws=[]:=by simpa using h2
  subst this
  rfl
 ·have e:Zs [.sl tok 0 1 (ws.map Bp),.v (.string ⟨⟨sep⟩⟩)]=some (Bp (Lib.join ws sep)):=by
   unfold Zs
   simp only [bI]
   rw [if_pos ⟨hl,hz⟩]
  show F4 Zs _ S=_
  unfold F4
  rw [e]
noncomputable def vG:Code:=(G9 (Tryz.f54.body.getD .skip)).getD .skip
theorem kT_zero (ks:List KI) (j:Nat) (h:j < ks.length):kT ks j 0=ks[j].text:=by
 unfold kT
 rw [List.getElem?_eq_getElem h]
 simp
set_option maxHeartbeats 16000000 in
theorem zS {kind pos:Nat} {n:Int} {name:List UInt8} {off:Bool} {kv:AV} {kids:List PE} (hk:RepK kv kids) (hlen:kids.length ≤ 2000000) (hok:∀ e ∈ kids,Ty e) (hz:Mw (De kids) ≤ 1000000000) (S1:St) (b:Nat) (hb:b < S1.next) (hn:2 ≤ S1.next) :
  ∀ (m j:Nat) (t:T AV) (S:St) (a:AV),j + m=kids.length → t.get 1=some (.ptr b 0) → t.get 3=some a → t.get 7=some (.v (.int .i64 (kids.length:Int))) → t.get 8=some (.v (.int .i64 (j:Int))) →
   S.mem.get b=some (.box (exC kind pos n name off kv)) → S1.next ≤ S.next → Y7 S1.next S a ((((De kids).map (·.text)).take j).map Bp) → (∀ id,id < S1.next → S.mem.get id=S1.mem.get id) →
   WX E6 20 (.loop vG) ⟨t,[]⟩ S (fun r=>∃ t' S' a',r=.out (.exit 0) ⟨t',[]⟩ S' ∧ t'.get 3=some a' ∧ Y7 S1.next S' a' (((De kids).map (·.text)).map Bp) ∧ Eg S1 S')
 | 0,j,t,S,a,hj,h1,h3,h7,h8,hbx,hS,hrow,hkeep=>by
  refine Fe (El ?_)
  have hlt:decide ((j:Int) < (kids.length:Int))=false:=decide_eq_false (by omega)
  simp only [Cf,Br,A6,Bl,Bq,Bt,Dk,A4,Ey,Bh,A7,Bj,Bi,Cg,A5,Bc,Ba,A0,ofOpt,Bv,Dd,Nat.reduceLT,Nat.reduceEqDiff,Aa,Ab,Ac,Ae,Am,E9,vG,G9,Tryz.f54,h1,h3,h7,h8,hlt]
  refine ⟨_,_,_,rfl,by simp only [A0,Nat.reduceEqDiff,Ab]; exact h3,?_,hS,hkeep⟩
  have e:((De kids).map (·.text)).take j=(De kids).map (·.text):=List.take_of_length_le (by rw [List.length_map,Pc]; omega)
  rw [e] at hrow
  exact hrow
 | m + 1,j,t,S,a,hj,h1,h3,h7,h8,hbx,hS,hrow,hkeep=>by
  refine Fe (El ?_)
  obtain ⟨fn1,hf1⟩:=nK
  have hlt:decide ((j:Int) < (kids.length:Int))=true:=decide_eq_true (by omega)
  have l0:C3 Tryz.prog S 30 (.ptr b 0)=some (.agg (exC kind pos n name off kv)):=ld30 hbx rfl
  simp only [Cf,Br,A6,Bl,Bq,Bt,Dk,A4,Ey,Bh,A7,Bj,Cb,Bi,Ci,A5,Bc,Ba,A0,Bo,B5,ofOpt,Bb,Bv,Dd,Nat.reduceLT,Nat.reduceEqDiff,Aa,Ab,Ac,Ae,Aj,Ak,Am,E9,vG,G9,Tryz.f54,h1,h3,h7,h8,hlt,hf1,l0]
  refine WC.mono (Nf hk hlen j 0 hok hz S (by omega)) ?_
  rintro _ ⟨S2,rfl,k2⟩
  have hjl:j < (De kids).length:=by rw [Pc]; omega
  rw [kT_zero _ _ hjl]
  have q1:=row69 (De kids)[j].text
  obtain ⟨S3,q2,hrow3,hn3,hk3⟩:=uK (hrow.keep k2) (by have:=k2.1; omega) (Nat.le_trans hS k2.1) (De kids)[j].text (by rw [List.length_map,List.length_take]; omega)
  have w1:IntKind.i64.wrap ((j:Int) + 1)=((j + 1:Nat):Int):=Jg (j:=1) (by omega)
  simp only [B8,A6,A4,Bs,Bh,A7,Bj,Bi,Cz,A5,Bc,Ba,A0,Bo,ofOpt,ofOptS,Bb,Bu,Bv,Dl,Nat.reduceLT,Nat.reduceEqDiff,Aa,Ab,Ac,Am,E9,Bp,h8,q1,q2,w1]
  refine zS (kind:=kind) (pos:=pos) (n:=n) (name:=name) (off:=off) (kv:=kv) (kids:=kids) hk hlen hok hz S1 b hb hn m (j + 1) _ S3 (.sl S2.next 0 1 (((((De kids).map (·.text)).take j).map Bp) ++ [.v (.string ⟨⟨(De kids)[j].text⟩⟩)])) (by omega) (by simp only [A0,Nat.reduceEqDiff,Ab]; exact h1) (by simp only [A0,Nat.reduceEqDiff,Ab,Aa]) (by simp only [A0,Nat.reduceEqDiff,Ab]; exact h7) (by simp only [A0,Nat.reduceEqDiff,Ab,Aa]) ?_ ?_ ?_ ?_
  ·rw [hk3 b hb,k2.2 b (by omega)]; exact hbx
  ·exact Nat.le_trans hS (Nat.le_trans k2.1 hn3)
  ·have e:((((De kids).map (·.text)).take (j + 1)).map Bp)=((((De kids).map (·.text)).take j).map Bp) ++ [.v (.string ⟨⟨(De kids)[j].text⟩⟩)]:=by
    rw [List.take_add_one,List.map_append,List.getElem?_map,List.getElem?_eq_getElem hjl]; rfl
   rw [e]; exact hrow3
  ·intro id hid
   rw [hk3 id hid,k2.2 id (by omega)]; exact hkeep id hid
set_option maxHeartbeats 16000000 in
theorem dP {kind pos:Nat} {n:Int} {name:List UInt8} {off:Bool} {kv:AV} {kids:List PE} (hk:RepK kv kids) (hlen:kids.length ≤ 1000000) (hok:∀ e ∈ kids,Ty e) (hz:Mw (De kids) ≤ 1000000000) (S:St) (hn2:2 ≤ S.next) :
  WC E6 54 [.agg (exC kind pos n name off kv)] S (fun r=>∃ S',r=.ret (Bp (Kj (De kids))) S' ∧ Eg S S'):=by
 refine Dx Tryz.f54 (by kernel_rfl) (by kernel_rfl) (by kernel_rfl) (show (_:Nat) ≤ _ from by show (_:Nat) ≤ _; simp [Tryz.f54]) ?_
 obtain ⟨fn1,hf1⟩:=vX
 have g1:=Db S (exC kind pos n name off kv)
 have k1:=C4 S (exC kind pos n name off kv)
 have lt1:S.next < (S.newBox (exC kind pos n name off kv)).next:=Nat.lt_succ_self _
 generalize hS1:S.newBox (exC kind pos n name off kv)=S1 at g1 k1 lt1
 have l5:=Qw g1
 have lk:Hp Tryz.prog S1 28 kv=some kids.length:=by
  cases hk with
  | nil=>exact Vm S1
  | row tok o es _ hf=>rw [U3]; rw [hf.len]
 simp only [A6,Bl,Bt,D5,A4,Bh,A7,Bj,Bi,A5,Bc,Ba,Cc,A0,A1,Bo,ofOpt,Bb,Nat.reduceLT,Nat.reduceEqDiff,Aa,Ab,Ac,Ae,E9,Tryz.f54,hS1,Cd,Ce,Yr,l5,lk]
 refine WX.mono (zS (kind:=kind) (pos:=pos) (n:=n) (name:=name) (off:=off) (kv:=kv) (kids:=kids) hk (by omega) hok hz S1 S.next lt1 (Nat.le_trans hn2 k1.1) kids.length 0 _ S1 .nils (by omega) (by simp [T.get_set]) (by simp [T.get_set]) (by simp [T.get_set]) (by simp [T.get_set]) g1 (Nat.le_refl _) (.inl ⟨rfl,by simp⟩) (fun _ _=>rfl)) ?_
 rintro _ ⟨t',S',a',rfl,h3,hrow,hkp⟩
 have hj:=Pd (De kids)
 simp only [A6,Bl,A4,Ey,F7,A7,Bj,Cb,Bi,A5,Bc,Ba,A0,Bo,B5,ofOpt,Bb,Nat.reduceLT,Aa,Ac,Aj,Ak,h3,hf1]
 refine WC.mono (vI hrow [44,32] (by rw [List.length_map,Pc]; exact hlen) (by unfold Kj at hj; omega)) ?_
 rintro _ rfl
 simp only [Bw,A4,Bh,A7,Bj,Bi,Cz,A5,Bc,Ba,A0,ofOpt,Bg,By,Bf,Cl,Nat.reduceLT,Nat.reduceEqDiff,Aa,Ab,Ac]
 exact ⟨_,rfl,k1.trans hkp⟩
end Go.Ax
noncomputable section
namespace Go.Ax
open Go.RowKit Go.Proofs
set_option maxRecDepth 100000
set_option maxHeartbeats 4000000 in
theorem pre6a_w (l pre:List UInt8) (S:St):WC E6 122 [Bp l,Bp pre] S (fun r=>r=.ret (.v (.bool (Ef pre l))) S):=by
 refine Dx Tryz.f122 (by kernel_rfl) (by kernel_rfl) (by kernel_rfl) (show (_:Nat) ≤ _ from by show (_:Nat) ≤ _; simp [Tryz.f122]) ?_
 unfold Bp
 by_cases h:(pre.length:Int) ≤ (l.length:Int)
 ·have hs:=sl9_to l pre.length (by omega)
  simp only [A6,Bl,Bw,Be,B1,A7,A9,A8,A5,Bc,Ba,Cc,A0,A1,Bo,B5,ofOpt,Bb,E9,Xf,Bv,Bg,By,Bf,Cl,Er,Nat.reduceLT,Nat.reduceAdd,Nat.reduceEqDiff,Aa,Ab,Ad,Ae,Af,Ag,Ah,Ai,Al,Am,Ap,Option.toList,Ay,Az,Tryz.f122,W1,h,hs,Gi,Cy,Ef]
 ·have e:Ef pre l=false:=by
   unfold Ef
   rw [decide_eq_false_iff_not]; intro hq
   have:=congrArg List.length hq
   simp at this; omega
  simp only [A6,Bl,Bw,Be,B1,A7,Ct,A9,A8,A5,Bc,Ba,Cc,A0,A1,Bo,ofOpt,Bb,E9,Xf,Bv,Bg,By,Bf,Cl,Er,Nat.reduceLT,Nat.reduceAdd,Nat.reduceEqDiff,Aa,Ab,Ad,Ae,Af,Ag,Ah,Ai,Am,Aq,Ar,Av,Tryz.f122,W1,h,Cy,e]
set_option maxHeartbeats 16000000 in
theorem uN (l pre:List UInt8) (S:St):WC E6 85 [Bp l,Bp pre] S (fun r=>r=.ret (.v (.bool (Ef pre l))) S):=by
 refine Dx Tryz.f85 (by kernel_rfl) (by kernel_rfl) (by kernel_rfl) (show (_:Nat) ≤ _ from by show (_:Nat) ≤ _; simp [Tryz.f85]) ?_
 obtain ⟨fn1,hf1⟩:=fn6_122
 simp only [A6,Bl,Be,B1,A7,A9,Bd,A8,A5,Bc,Ba,Cc,A0,A1,Bo,B5,ofOpt,Bb,Nat.reduceLT,Nat.reduceAdd,Nat.reduceEqDiff,Aa,Ab,Ac,Ae,Aj,Ak,Tryz.f85,hf1]
 refine WC.mono (pre6a_w l pre S) ?_
 rintro _ rfl
 simp only [Bw,Be,B1,A7,A9,A8,Bk,A5,Bc,Ba,A0,A1,ofOpt,Bg,By,Bf,Cl,Nat.reduceLT,Nat.reduceEqDiff,Aa,Ab,Ad]
theorem fepz (cs:List AV):C9 Tryz.prog 30 (.ep cs) 0=some (.ep cs):=by kernel_rfl
theorem lep3 (S:St) (kind pos:Nat) (n:Int) (name:List UInt8) (off:Bool) (kv:AV):C3 Tryz.prog S 3 (.ep (exC kind pos n name off kv))=some (.v (.int .i64 (kind:Int))):=by simp [C3,Dr,a3,exC,D0]
theorem idx28z (tok off:Nat) (es:List AV) (h:0 < es.length) (ys:List AV) (hy:es[0]=.agg ys):Cm Tryz.prog 28 (.sl tok off 6 es) (.v (.int .i64 0))=some (.ep ys):=rI tok off es 0 h ys hy
set_option maxHeartbeats 16000000 in
theorem neg_w {kind pos:Nat} {n:Int} {name:List UInt8} {off:Bool} {kv:AV} {kids:List PE} (hk:RepK kv kids) (hlen:kids.length ≤ 1000000) (hok:∀ e ∈ kids,Ty e) (hz:Mw (De kids) ≤ 1000000000) (S:St) (hn2:2 ≤ S.next):WC E6 50 [.agg (exC kind pos n name off kv)] S (fun r=>∃ S',r=.ret (Bp (Yj (De kids))) S' ∧ Eg S S'):=by
 refine Dx Tryz.f50 (by kernel_rfl) (by kernel_rfl) (by kernel_rfl) (show (_:Nat) ≤ _ from by show (_:Nat) ≤ _; simp [Tryz.f50]) ?_
 obtain ⟨fn1,hf1⟩:=nK
 obtain ⟨fn2,hf2⟩:=fn6_85
 have g1:=Db S (exC kind pos n name off kv)
 have k1:=C4 S (exC kind pos n name off kv)
 have lt1:S.next < (S.newBox (exC kind pos n name off kv)).next:=Nat.lt_succ_self _
 generalize hS1:S.newBox (exC kind pos n name off kv)=S1 at g1 k1 lt1
 have l0:C3 Tryz.prog S1 30 (.ptr S.next 0)=some (.agg (exC kind pos n name off kv)):=ld30 g1 rfl
 simp only [A6,Bl,A4,Bh,A7,Bj,Cb,Bi,A5,Bc,Ba,Cc,A0,A1,Bo,B5,ofOpt,Bb,Nat.reduceLT,Nat.reduceEqDiff,Aa,Ab,Ac,Ae,Aj,Ak,E9,hf1,hS1,Cd,Ce,Tryz.f50,l0]
 have hkw:=Nf (kind:=kind) (pos:=pos) (n:=n) (name:=name) (off:=off) hk (by omega) 0 8 hok hz S1 (Nat.le_trans hn2 k1.1)
 refine WC.mono hkw ?_
 rintro _ ⟨S2,rfl,k2⟩
 have g2:S2.mem.get S.next=some (.box (exC kind pos n name off kv)):=(k2.2 _ lt1).trans g1
 have l5:=Qw g2
 have hs:=Tc (De kids) 0 8
 have eN:Yj (De kids)=if (∃ k,(De kids)[0]? = some k ∧ k.kind=1) ∨ Ef [45] (kT (De kids) 0 8)=true then ([45,40] ++ kT (De kids) 0 8) ++ [41] else [45] ++ kT (De kids) 0 8:=rfl
 rw [eN]
 generalize hs8:kT (De kids) 0 8=s8 at *
 have q4:=C5 [45,40] s8 (by simp; omega)
 have q5:=C5 ([45,40] ++ s8) [41] (by simp; omega)
 have q6:=C5 [45] s8 (by simp; omega)
 have fin:∀ (b:Bool),((∃ k,(De kids)[0]? = some k ∧ k.kind=1) ∨ b=true) → b=true ∨ ∃ k,(De kids)[0]? = some k ∧ k.kind=1:=fun b h=>h.symm
 cases hk with
 | nil =>
  have no:¬ ∃ k,(De [])[0]? = some k ∧ k.kind=1:=by rintro ⟨k,h,_⟩; cases h
  have hd:decide ((0:Int) > 0)=false:=rfl
  have hd':decide (((0:Nat):Int) > 0)=false:=rfl
  simp only [A6,Bl,A4,Bh,A7,Ct,Bj,Cb,Bi,Cz,A5,Bc,Ba,A0,A1,Bo,B5,ofOpt,Bb,Bv,Do,Nat.reduceLT,Nat.reduceEqDiff,Aa,Ab,Ac,Af,Ag,Ah,Ai,Aj,Ak,Al,Am,Ar,Av,E9,Xf,hf2,Yr,l5,Vm,hd',Bp]
  refine WC.mono (uN s8 [45] S2) ?_
  rintro _ rfl
  cases hp:Ef [45] s8 with
  | true =>
   simp only [Br,A6,Bl,Bq,Bw,A4,B0,Bh,A7,Bj,Bi,Cz,Ci,A5,Bc,Ba,A0,A1,ofOpt,Bb,Bg,By,Bf,Cl,Nat.reduceLT,Nat.reduceEqDiff,Aa,Ab,Ac,Am,E9,Xf,Cy,q4,q5]
   exact ⟨_,by rw [if_pos (.inr trivial)],k1.trans k2⟩
  | false =>
   simp only [Br,A6,Bl,Bq,Bw,A4,Bh,A7,Bj,Bi,Cz,Cg,A5,Bc,Ba,A0,A1,ofOpt,Bb,Bg,By,Bf,Cl,Nat.reduceLT,Nat.reduceEqDiff,Aa,Ab,Ac,Am,E9,Xf,Cy,q6]
   exact ⟨_,by rw [if_neg (fun h=>by rcases h with h | h; exact no h; cases h)],k1.trans k2⟩
 | row tok o es _ hf =>
  have hl:=hf.len
  cases hf with
  | nil =>
   have no:¬ ∃ k,(De [])[0]? = some k ∧ k.kind=1:=by rintro ⟨k,h,_⟩; cases h
   have hd:decide ((([]:List AV).length:Int) > 0)=false:=rfl
   simp only [A6,Bl,A4,Bh,A7,Ct,Bj,Cb,Bi,Cz,A5,Bc,Ba,A0,A1,Bo,B5,ofOpt,Bb,Bv,Do,Nat.reduceLT,Nat.reduceEqDiff,Aa,Ab,Ac,Af,Ag,Ah,Ai,Aj,Ak,Al,Am,Ar,Av,E9,Xf,hf2,Yr,l5,U3,hd,Bp]
   refine WC.mono (uN s8 [45] S2) ?_
   rintro _ rfl
   cases hp:Ef [45] s8 with
   | true =>
    simp only [Br,A6,Bl,Bq,Bw,A4,B0,Bh,A7,Bj,Bi,Cz,Ci,A5,Bc,Ba,A0,A1,ofOpt,Bb,Bg,By,Bf,Cl,Nat.reduceLT,Nat.reduceEqDiff,Aa,Ab,Ac,Am,E9,Xf,Cy,q4,q5]
    exact ⟨_,by rw [if_pos (.inr trivial)],k1.trans k2⟩
   | false =>
    simp only [Br,A6,Bl,Bq,Bw,A4,Bh,A7,Bj,Bi,Cz,Cg,A5,Bc,Ba,A0,A1,ofOpt,Bb,Bg,By,Bf,Cl,Nat.reduceLT,Nat.reduceEqDiff,Aa,Ab,Ac,Am,E9,Xf,Cy,q6]
    exact ⟨_,by rw [if_neg (fun h=>by rcases h with h | h; exact no h; cases h)],k1.trans k2⟩
  | cons a e r l h h2 =>
   cases h with
   | mk kd ps nn nm of kv2 ks2 hk2 =>
   have hd:decide ((((AV.agg (exC kd ps nn nm of kv2)) :: r).length:Int) > 0)=true:=decide_eq_true (by simp only [List.length_cons]; omega)
   have q1:=idx28z tok o (AV.agg (exC kd ps nn nm of kv2) :: r) (by simp) (exC kd ps nn nm of kv2) rfl
   have q2:=lep3 S2 kd ps nn nm of kv2
   have ek:(∃ k,(De (.mk kd ps nn nm of ks2 :: l))[0]? = some k ∧ k.kind=1) ↔ kd=1:=⟨fun ⟨k,h,h1⟩=>by
    have:k=⟨Dz (.mk kd ps nn nm of ks2),Dh (.mk kd ps nn nm of ks2),kd⟩:=by injection h with h; exact h.symm
    subst this; exact h1,fun h=>⟨_,rfl,h⟩⟩
   by_cases h1:kd=1
   ·subst h1
    have e1:(((1:Nat):Int) == 1)=true:=rfl
    simp only [Br,A6,Bl,Bq,Bw,A4,B0,Bh,A7,Ct,Bj,Bi,Cz,Ci,A5,Bc,Ba,A0,A1,Bo,B5,ofOpt,Bb,Bv,Bg,By,Bf,Cl,Do,B7,Nat.reduceLT,Nat.reduceEqDiff,Aa,Ab,Ac,Af,Ag,Ah,Ai,Aj,Ak,Al,Am,Aw,E9,Xf,Cy,hf2,Yr,l5,U3,hd,q1,fepz,q2,e1,q4,q5,Bp]
    exact ⟨_,by rw [if_pos (.inl (ek.2 rfl))],k1.trans k2⟩
   ·have e1:((kd:Int) == 1)=false:=by rw [beq_eq_false_iff_ne]; omega
    simp only [A6,Bl,A4,Bh,A7,Bj,Cb,Bi,Cz,A5,Bc,Ba,A0,A1,Bo,B5,ofOpt,Bb,Bv,Do,B7,Nat.reduceLT,Nat.reduceEqDiff,Aa,Ab,Ac,Af,Ag,Ah,Ai,Aj,Ak,Al,Am,E9,hf2,Yr,l5,U3,hd,q1,fepz,q2,e1,Bp]
    refine WC.mono (uN s8 [45] S2) ?_
    rintro _ rfl
    cases hp:Ef [45] s8 with
    | true =>
     simp only [Br,A6,Bl,Bq,Bw,A4,B0,Bh,A7,Bj,Bi,Cz,Ci,A5,Bc,Ba,A0,A1,ofOpt,Bb,Bg,By,Bf,Cl,Nat.reduceLT,Nat.reduceEqDiff,Aa,Ab,Ac,Am,E9,Xf,Cy,q4,q5]
     exact ⟨_,by rw [if_pos (.inr trivial)],k1.trans k2⟩
    | false =>
     simp only [Br,A6,Bl,Bq,Bw,A4,Bh,A7,Bj,Bi,Cz,Cg,A5,Bc,Ba,A0,A1,ofOpt,Bb,Bg,By,Bf,Cl,Nat.reduceLT,Nat.reduceEqDiff,Aa,Ab,Ac,Am,E9,Xf,Cy,q6]
     exact ⟨_,by rw [if_neg (fun h=>by rcases h with h | h; exact h1 (ek.1 h); cases h)],k1.trans k2⟩
set_option maxHeartbeats 16000000 in
theorem await_w {kind pos:Nat} {n:Int} {name:List UInt8} {off:Bool} {kv:AV} {kids:List PE} (hk:RepK kv kids) (hlen:kids.length ≤ 1000000) (hok:∀ e ∈ kids,Ty e) (hz:Mw (De kids) ≤ 1000000000) (hnm:name.length ≤ 30) (S:St) (hn2:2 ≤ S.next):WC E6 55 [.agg (exC kind pos n name off kv)] S (fun r=>∃ S',r=.ret (Bp (Tw name (De kids))) S' ∧ Eg S S'):=by
 refine Dx Tryz.f55 (by kernel_rfl) (by kernel_rfl) (by kernel_rfl) (show (_:Nat) ≤ _ from by show (_:Nat) ≤ _; simp [Tryz.f55]) ?_
 obtain ⟨fn1,hf1⟩:=fn6_54
 have g1:=Db S (exC kind pos n name off kv)
 have k1:=C4 S (exC kind pos n name off kv)
 have lt1:S.next < (S.newBox (exC kind pos n name off kv)).next:=Nat.lt_succ_self _
 generalize hS1:S.newBox (exC kind pos n name off kv)=S1 at g1 k1 lt1
 have l0:C3 Tryz.prog S1 30 (.ptr S.next 0)=some (.agg (exC kind pos n name off kv)):=ld30 g1 rfl
 have l3:=E3 g1
 have l5:=Qw g1
 have lk:Hp Tryz.prog S1 28 kv=some kids.length:=by
  cases hk with
  | nil=>exact Vm S1
  | row tok o es _ hf=>rw [U3]; rw [hf.len]
 have hj:=Pd (De kids)
 have q1:=C5 [97,119,97,105,116,32] name (by simp; omega)
 have q2:=C5 [32,97,102,116,101,114,32,40] (Kj (De kids)) (by simp; omega)
 have q3:=C5 ([32,97,102,116,101,114,32,40] ++ Kj (De kids)) [41] (by simp; omega)
 have q4:=C5 ([97,119,97,105,116,32] ++ name) (([32,97,102,116,101,114,32,40] ++ Kj (De kids)) ++ [41]) (by simp; omega)
 unfold Tw
 by_cases h0:0 < kids.length
 ·have hd:decide ((kids.length:Int) > 0)=true:=decide_eq_true (by omega)
  simp only [Br,A6,Bl,Bq,Bw,A4,Bh,A7,Bj,Cb,Bi,Ci,A5,Bc,Ba,Cc,A0,A1,Bo,B5,ofOpt,Bb,Bv,Bg,By,Bf,Cl,Do,Nat.reduceLT,Nat.reduceEqDiff,Aa,Ab,Ac,Ae,Aj,Ak,Am,E9,Cy,hf1,hS1,Cd,Ce,fe3,Yr,Tryz.f55,l0,l3,l5,lk,hd,q1]
  refine WC.mono (dP (kind:=kind) (pos:=pos) (n:=n) (name:=name) (off:=off) hk hlen hok hz S1 (Nat.le_trans hn2 k1.1)) ?_
  rintro _ ⟨S2,rfl,k2⟩
  simp only [A6,Bl,Bw,A4,Bh,A7,Bj,Bi,Cz,A5,Bc,Ba,A0,A1,ofOpt,Bb,Bg,By,Bf,Cl,Nat.reduceLT,Nat.reduceEqDiff,Aa,Ab,Ac,Am,E9,Cy,q2,q3,q4,Bp]
  exact ⟨_,by rw [if_pos (by rw [Pc]; exact h0)],k1.trans k2⟩
 ·have hd:decide ((kids.length:Int) > 0)=false:=decide_eq_false (by omega)
  simp only [Br,A6,Bl,Bq,Bw,A4,Bh,A7,Bj,Cb,Bi,Cg,A5,Bc,Ba,Cc,A0,A1,Bo,B5,ofOpt,Bb,Bv,Bg,By,Bf,Cl,Do,Nat.reduceLT,Nat.reduceEqDiff,Aa,Ab,Ac,Ae,Aj,Ak,Am,E9,Cy,hf1,hS1,Cd,Ce,fe3,Yr,Tryz.f55,l0,l3,l5,lk,hd,q1]
  exact ⟨_,by rw [if_neg (by rw [Pc]; exact h0)]; rfl,k1⟩
set_option maxHeartbeats 16000000 in
theorem bin6_w {kind pos:Nat} {n:Int} {name:List UInt8} {off:Bool} {kv:AV} {kids:List PE} (hk:RepK kv kids) (hlen:kids.length ≤ 1000000) (hok:∀ e ∈ kids,Ty e) (hz:Mw (De kids) ≤ 1000000000) (hnm:name.length ≤ 30) (S:St) (hn2:2 ≤ S.next):WC E6 52 [.agg (exC kind pos n name off kv)] S (fun r=>∃ S',r=.ret (Bp (gJ name (De kids))) S' ∧ Eg S S'):=by
 refine Dx Tryz.f52 (by kernel_rfl) (by kernel_rfl) (by kernel_rfl) (show (_:Nat) ≤ _ from by show (_:Nat) ≤ _; simp [Tryz.f52]) ?_
 obtain ⟨fn1,hf1⟩:=nK
 obtain ⟨fn2,hf2⟩:=fn6_87
 have g1:=Db S (exC kind pos n name off kv)
 have k1:=C4 S (exC kind pos n name off kv)
 have lt1:S.next < (S.newBox (exC kind pos n name off kv)).next:=Nat.lt_succ_self _
 generalize hS1:S.newBox (exC kind pos n name off kv)=S1 at g1 k1 lt1
 have l0:C3 Tryz.prog S1 30 (.ptr S.next 0)=some (.agg (exC kind pos n name off kv)):=ld30 g1 rfl
 have l3:=E3 g1
 have rf:Om (exC kind pos n name off kv) (exC kind pos n name off kv)=true:=Hq (.mk kind pos n name off kv kids hk)
 have rf2:Gr (.agg (exC kind pos n name off kv)) (.agg (exC kind pos n name off kv))=true:=(RepE.mk kind pos n name off kv kids hk).refl
 have hsB:F1 name ≤ 7:=by unfold F1; split; omega; split; omega; split; omega; split <;> omega
 simp only [A6,Bl,A4,Bh,A7,Bj,Cb,Bi,A5,Bc,Ba,Cc,A0,A1,Bo,B5,ofOpt,Bb,Nat.reduceLT,Nat.reduceEqDiff,Aa,Ab,Ac,Ae,Aj,Ak,E9,hf2,hS1,Cd,Ce,fe3,Tryz.f52,l3]
 refine WC.mono (xV name S1) ?_
 rintro _ rfl
 generalize hO:F1 name=own at hsB
 have hb2:=Ym (De kids) (if own=5 then 6 else own) (own + 1)
 have eB:gJ name (De kids)=(((kT (De kids) 0 (if own=5 then 6 else own) ++ [32]) ++ name) ++ [32]) ++ kT (De kids) 1 (own + 1):=by unfold gJ; rw [hO]
 rw [eB]
 generalize hA:kT (De kids) 0 (if own=5 then 6 else own)=sA at hb2
 generalize hB:kT (De kids) 1 (own + 1)=sB at hb2
 have q1:=C5 sA [32] (by simp; omega)
 have q2:=C5 (sA ++ [32]) name (by simp; omega)
 have q3:=C5 ((sA ++ [32]) ++ name) [32] (by simp; omega)
 have q4:=C5 (((sA ++ [32]) ++ name) ++ [32]) sB (by simp; omega)
 have w1:IntKind.i64.wrap ((own:Int) + 1)=((own + 1:Nat):Int):=Jg (j:=1) (by omega)
 by_cases h5:own=5
 ·have e5:((own:Int) == 5)=true:=by rw [h5]; rfl
  have hA':kT (De kids) 0 (own + 1)=sA:=by rw [← hA,if_pos h5,h5]
  simp only [Br,A6,Ch,Bl,Bq,A4,Bh,A7,Bj,Bi,Cz,Ci,A5,Bc,Ba,A0,A1,ofOpt,Bb,Bv,Dl,B7,Nat.reduceLT,Nat.reduceEqDiff,Aa,Ab,Ac,Am,E9,e5,w1,D0]
  refine G4 [(0,true),(1,true),(4,true),(5,true),(8,true),(9,true),(10,true),(2,true),(8,false),(5,false),(3,true),(6,true),(7,true),(11,true),(5,false),(12,true),(13,true)] (by kernel_rfl) (by kernel_rfl) ?_
  simp only [A5,Bc,Ba,A0,A1,Bo,B5,ofOpt,Bb,Bv,Dl,Nat.reduceLT,Nat.reduceEqDiff,Aa,Ab,Ac,Af,Ag,Ah,Aj,Ak,Am,E9,hf1,fe3,l0,l3,w1,Dj,C0,Df,Cn,Gu]
  have hkw:=Nf (kind:=kind) (pos:=pos) (n:=n) (name:=name) (off:=off) hk (by omega) 0 (own + 1) hok hz S1 (Nat.le_trans hn2 k1.1)
  refine WC.mono hkw ?_
  rintro _ ⟨S2,rfl,k2⟩
  rw [hA']
  have g2:S2.mem.get S.next=some (.box (exC kind pos n name off kv)):=(k2.2 _ lt1).trans g1
  have m0:C3 Tryz.prog S2 30 (.ptr S.next 0)=some (.agg (exC kind pos n name off kv)):=ld30 g2 rfl
  have m3:=E3 g2
  simp only [A5,Bc,Ba,A0,A1,Bo,B5,ofOpt,Bb,Nat.reduceLT,Nat.reduceEqDiff,Aa,Ab,Ac,Aj,Ak,Am,E9,Cy,hf1,m0,m3,Bp,rf2,q1,q2,q3,Dj,Gn,C0,Df,Cn,Du,Dy,Ed,G3]
  have hkw:=Nf (kind:=kind) (pos:=pos) (n:=n) (name:=name) (off:=off) hk (by omega) 1 (own + 1) hok hz S2 (by have:=k1.1; have:=k2.1; omega)
  refine WC.mono hkw ?_
  rintro _ ⟨S3,rfl,k3⟩
  rw [hB]
  have n3:=E3 ((k3.2 _ (Nat.lt_of_lt_of_le lt1 k2.1)).trans g2)
  simp only [Bw,A4,A5,Bc,Ba,A0,A1,ofOpt,Bg,By,Bf,Cl,Nat.reduceLT,Nat.reduceEqDiff,Aa,Ab,Ac,Am,E9,Cy,n3,Bp,q4,Ew,Dj,Gn,C0,Cn,Du,D9,Dy,Ed,G3]
  exact ⟨_,rfl,(k1.trans k2).trans k3⟩
 ·have e5:((own:Int) == 5)=false:=by rw [beq_eq_false_iff_ne]; omega
  have hA':kT (De kids) 0 own=sA:=by rw [← hA,if_neg h5]
  simp only [Br,A6,Ch,Bl,Bq,A4,Bh,A7,Bj,Bi,Cz,Cg,A5,Bc,Ba,A0,A1,ofOpt,Bb,Bv,Dl,B7,Nat.reduceLT,Nat.reduceEqDiff,Aa,Ab,Ac,Am,E9,e5,w1,D0]
  refine G4 [(0,true),(1,true),(4,true),(5,true),(8,true),(9,true),(10,true),(2,true),(8,false),(5,false),(3,true),(6,true),(7,true),(11,true),(5,false),(12,true),(13,true)] (by kernel_rfl) (by kernel_rfl) ?_
  simp only [A5,Bc,Ba,A0,A1,Bo,B5,ofOpt,Bb,Bv,Dl,Nat.reduceLT,Nat.reduceEqDiff,Aa,Ab,Ac,Af,Ag,Ah,Aj,Ak,Am,E9,hf1,fe3,l0,l3,w1,Dj,C0,Df,Cn,Gu]
  have hkw:=Nf (kind:=kind) (pos:=pos) (n:=n) (name:=name) (off:=off) hk (by omega) 0 own hok hz S1 (Nat.le_trans hn2 k1.1)
  refine WC.mono hkw ?_
  rintro _ ⟨S2,rfl,k2⟩
  rw [hA']
  have g2:S2.mem.get S.next=some (.box (exC kind pos n name off kv)):=(k2.2 _ lt1).trans g1
  have m0:C3 Tryz.prog S2 30 (.ptr S.next 0)=some (.agg (exC kind pos n name off kv)):=ld30 g2 rfl
  have m3:=E3 g2
  simp only [A5,Bc,Ba,A0,A1,Bo,B5,ofOpt,Bb,Nat.reduceLT,Nat.reduceEqDiff,Aa,Ab,Ac,Aj,Ak,Am,E9,Cy,hf1,m0,m3,Bp,rf2,q1,q2,q3,Dj,Gn,C0,Df,Cn,Du,Dy,Ed,G3]
  have hkw:=Nf (kind:=kind) (pos:=pos) (n:=n) (name:=name) (off:=off) hk (by omega) 1 (own + 1) hok hz S2 (by have:=k1.1; have:=k2.1; omega)
  refine WC.mono hkw ?_
  rintro _ ⟨S3,rfl,k3⟩
  rw [hB]
  have n3:=E3 ((k3.2 _ (Nat.lt_of_lt_of_le lt1 k2.1)).trans g2)
  simp only [Bw,A4,A5,Bc,Ba,A0,A1,ofOpt,Bg,By,Bf,Cl,Nat.reduceLT,Nat.reduceEqDiff,Aa,Ab,Ac,Am,E9,Cy,n3,Bp,q4,Ew,Dj,Gn,C0,Cn,Du,D9,Dy,Ed,G3]
  exact ⟨_,rfl,(k1.trans k2).trans k3⟩
end Go.Ax
