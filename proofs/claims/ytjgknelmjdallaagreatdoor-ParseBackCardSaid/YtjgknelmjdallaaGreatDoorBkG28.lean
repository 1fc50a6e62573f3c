/- Bze -/
import Derived.Test.YtjgknelmjdallaaGreatDoorBkG27
import Derived.Test.YtjgknelmjdallaaGreatDoorBkG21
import Derived.Test.YtjgknelmjdallaaGreatDoorBkG24
import Derived.Test.YtjgknelmjdallaaGreatDoorBkG23
import Derived.Test.YtjgknelmjdallaaGreatDoorBkG19
import Derived.Test.YtjgknelmjdallaaGreatDoorBkG12
import Derived.Lib.LaidTab
import Derived.Deep.Slices
import Derived.Deep.Fields
import Derived.ChangeSame
import Derived.OpenShut
set_option linter.unusedVariables false
set_option linter.unusedSimpArgs false
noncomputable section
namespace Go.Ax
open Go.RowKit Go.Proofs
set_option maxRecDepth 100000
theorem zP {l:List PE} (h:l.length=1):∃ x,l=[x]:=by
 match l,h with
 | [x],_=>exact ⟨x,rfl⟩
theorem zO {l:List PE} (h:l.length=2):∃ x y,l=[x,y]:=by
 match l,h with
 | [x,y],_=>exact ⟨x,y,rfl⟩
theorem len_3 {l:List PE} (h:l.length=3):∃ x y z,l=[x,y,z]:=by
 match l,h with
 | [x,y,z],_=>exact ⟨x,y,z,rfl⟩
theorem I1 {d K k4 k3:Nat} {n:Int} {name:List UInt8} {off:Bool} (h4:k4 < 4) (h3:k3 < 3) (h2:2 ≤ d ∨ K ≤ 3) (hl:name.length ≤ 30) (hn:-9223372036854775808 ≤ n ∧ n ≤ 9223372036854775807) (hs:∀ kids:List PE,kids.length=Jx K k4 k3 → (K=14 → ∀ x ∈ kids,G8 x=true) → (K=9 → ∀ x,kids[0]? = some x → G8 x=true) → Shape K n name off kids):Ready d K n name off (Jx K k4 k3):=by
 refine ⟨needV_le h4 h3,fun h=>?_,hl,hn,hs⟩
 rcases h2 with h2 | h2
 ·exact h2
 ·rw [needV_0 h2] at h; omega
set_option maxHeartbeats 16000000 in
theorem sm7_w {S0:St} {p q o lo d pos:Nat} {rk ra rn:Int} {rs:ByteArray} {rb:Bool} {kv:AV} {t:T AV} {S:St} {Q:O → Prop} {K k4 k3 k9:Nat} (hn:-9223372036854775808 ≤ rn ∧ rn ≤ 9223372036854775807) (hK:1 ≤ K ∧ K ≤ 14) (hk4:k4 < 4) (hk3:k3 < 3) (hd:2 ≤ d ∨ K ≤ 3) (hf:FrS p q o (d:Int) t) (h8:t.get 8=some (Bp (Hk k9))) (hm:Mem3 S0 p q o lo (L8 rk ra rn rs rb kv) (exC K pos 0 [] false .nils) S)
  (hQ:∀ (t':T AV) (n:Int) (name:List UInt8) (off:Bool) (S':St),FrS p q o (d:Int) t' → t'.get 7=t.get 7 → Ready d K n name off (Jx K k4 k3) → Mem3 S0 p q o lo (L8 rk ra rn rs rb kv) (exC K pos n name off .nils) S' → Q (.out .normal ⟨t',[]⟩ S')):W E8 157 sm7 ⟨t,[]⟩ S Q:=by
 obtain ⟨fn1,hf38⟩:=Yo
 have h2:=hf.t2
 have h6:=hf.t6
 have mp:=hm.mp
 have mo:=hm.mo
 have hnm:(Hk k9).length ≤ 30:=(Qu k9).2.2
 by_cases eK1:K=1
 ·subst eK1
  have e1:(((1:Nat):Int) == 1)=true:=rfl
  have e2:(((1:Nat):Int) == 2)=false:=rfl
  have e6:(((1:Nat):Int) == 6)=false:=rfl
  have e3:(((1:Nat):Int) == 3)=false:=rfl
  have e12:(((1:Nat):Int) == 12)=false:=rfl
  have e13:(((1:Nat):Int) == 13)=false:=rfl
  have e14:(((1:Nat):Int) == 14)=false:=rfl
  have e11:(((1:Nat):Int) == 11)=false:=rfl
  have q1:=Oq szc2 S o 2 (.v (.int .i64 rn)) _ rfl mo (show 2 < 6 by decide)
  have q1:C7 Tryz.prog S 2 (.ptr o 2) (.v (.int .i64 rn))=some (S.put o (exC 1 pos rn [] false .nils)):=q1
  simp only [Br,A6,Ch,Bl,Bq,Bt,A4,Bs,Bh,A7,Bj,Eb,En,Bi,Ci,Cg,A5,Bc,Ba,A0,ofOpt,Bb,Bu,Bv,B7,Nat.reduceLT,Nat.reduceEqDiff,Aa,Ab,Ac,Am,D6,Hx,Dq,sm7,Tryz.f13,q1,h2,h6,mp,mo,e1,e2,e6,e3,e12,e13,e14,e11,Sh,L9,Es,Na,Ps,Eh,E4]
  refine hQ _ rn [] false _ (hf.same ?_ ?_ ?_ ?_) ?_ (I1 hk4 hk3 hd (by decide) hn (fun kids hl h14 h9=>by obtain rfl:=List.eq_nil_of_length_eq_zero hl; exact .num rn hn)) (hm.o_put _) <;> simp only [A0,Nat.reduceEqDiff,Aa,Ab]
 by_cases eK2:K=2
 ·subst eK2
  have e1:(((2:Nat):Int) == 1)=false:=rfl
  have e2:(((2:Nat):Int) == 2)=true:=rfl
  have e6:(((2:Nat):Int) == 6)=false:=rfl
  have e3:(((2:Nat):Int) == 3)=false:=rfl
  have e12:(((2:Nat):Int) == 12)=false:=rfl
  have e13:(((2:Nat):Int) == 13)=false:=rfl
  have e14:(((2:Nat):Int) == 14)=false:=rfl
  have e11:(((2:Nat):Int) == 11)=false:=rfl
  obtain ⟨n1,hn1,hn2⟩:=aT rn 1 (by decide)
  have hn1':bits .and .i64 rn 1=(n1:Int):=hn1
  have q1:=Oq szc2 S o 2 (.v (.int .i64 (n1:Int))) _ rfl mo (show 2 < 6 by decide)
  have q1:C7 Tryz.prog S 2 (.ptr o 2) (.v (.int .i64 (n1:Int)))=some (S.put o (exC 2 pos n1 [] false .nils)):=q1
  simp only [Br,A6,Ch,Bl,Bq,Bt,A4,Bs,Bh,A7,Bj,Eb,En,Bi,Ci,Cg,A5,Bc,Ba,A0,ofOpt,Bb,Bu,Bv,B7,Nat.reduceLT,Nat.reduceEqDiff,Aa,Ab,Ac,Am,D6,Hx,Dq,sm7,Tryz.f13,q1,hn1',kC,fL,Ys,h2,h6,mp,mo,e1,e2,e6,e3,e12,e13,e14,e11,Sh,L9,Es,Na,Ps,Eh,E4]
  refine hQ _ (n1:Int) [] false _ (hf.same ?_ ?_ ?_ ?_) ?_ (I1 hk4 hk3 hd (by decide) (by omega) (fun kids hl h14 h9=>by obtain rfl:=List.eq_nil_of_length_eq_zero hl; exact .truth _ (by omega))) (hm.o_put _) <;> simp only [A0,Nat.reduceEqDiff,Aa,Ab]
 by_cases eK3:K=3
 ·subst eK3
  have e1:(((3:Nat):Int) == 1)=false:=rfl
  have e2:(((3:Nat):Int) == 2)=false:=rfl
  have e6:(((3:Nat):Int) == 6)=false:=rfl
  have e3:(((3:Nat):Int) == 3)=true:=rfl
  have e12:(((3:Nat):Int) == 12)=false:=rfl
  have e13:(((3:Nat):Int) == 13)=false:=rfl
  have e14:(((3:Nat):Int) == 14)=false:=rfl
  have e11:(((3:Nat):Int) == 11)=false:=rfl
  have q1:=Oq szc9 S o 3 (Bp (Hk k9)) _ rfl mo (show 3 < 6 by decide)
  have q1:C7 Tryz.prog S 9 (.ptr o 3) (Bp (Hk k9))=some (S.put o (exC 3 pos 0 (Hk k9) false .nils)):=q1
  simp only [Br,A6,Ch,Bl,Bq,Bt,A4,Bs,Bh,A7,Bj,Eb,En,Bi,Ci,Cg,A5,Bc,Ba,A0,ofOpt,Bb,Bu,Bv,B7,Nat.reduceLT,Nat.reduceEqDiff,Aa,Ab,Ac,Am,D6,Hx,Dq,sm7,Tryz.f13,q1,h8,h2,h6,mp,mo,e1,e2,e6,e3,e12,e13,e14,e11,Sh,L9,Es,Na,Ps,Eh,E4,Fd]
  refine hQ _ 0 (Hk k9) false _ (hf.same ?_ ?_ ?_ ?_) ?_ (I1 hk4 hk3 hd hnm (by omega) (fun kids hl h14 h9=>by obtain rfl:=List.eq_nil_of_length_eq_zero hl; exact .var _ (Qu _))) (hm.o_put _) <;> simp only [A0,Nat.reduceEqDiff,Aa,Ab]
 by_cases eK4:K=4
 ·subst eK4
  have e1:(((4:Nat):Int) == 1)=false:=rfl
  have e2:(((4:Nat):Int) == 2)=false:=rfl
  have e6:(((4:Nat):Int) == 6)=false:=rfl
  have e3:(((4:Nat):Int) == 3)=false:=rfl
  have e12:(((4:Nat):Int) == 12)=false:=rfl
  have e13:(((4:Nat):Int) == 13)=false:=rfl
  have e14:(((4:Nat):Int) == 14)=false:=rfl
  have e11:(((4:Nat):Int) == 11)=false:=rfl
  simp only [Br,A6,Ch,Bl,Bq,Bt,A4,Bs,Bh,A7,Bj,Bi,Cg,A5,Bc,Ba,A0,ofOpt,Bb,Bu,Bv,B7,Nat.reduceLT,Nat.reduceEqDiff,Aa,Ab,Ac,Am,D6,Hx,Dq,sm7,Tryz.f13,h2,h6,mp,mo,e1,e2,e6,e3,e12,e13,e14,e11,Sh,L9,Es,Na,Ps,Eh,E4]
  refine hQ _ 0 [] false _ (hf.same ?_ ?_ ?_ ?_) ?_ (I1 hk4 hk3 hd (by decide) (by omega) (fun kids hl h14 h9=>by obtain ⟨x,rfl⟩:=zP hl; exact .neg _)) hm <;> simp only [A0,Nat.reduceEqDiff,Aa,Ab]
 by_cases eK5:K=5
 ·subst eK5
  have e1:(((5:Nat):Int) == 1)=false:=rfl
  have e2:(((5:Nat):Int) == 2)=false:=rfl
  have e6:(((5:Nat):Int) == 6)=false:=rfl
  have e3:(((5:Nat):Int) == 3)=false:=rfl
  have e12:(((5:Nat):Int) == 12)=false:=rfl
  have e13:(((5:Nat):Int) == 13)=false:=rfl
  have e14:(((5:Nat):Int) == 14)=false:=rfl
  have e11:(((5:Nat):Int) == 11)=false:=rfl
  simp only [Br,A6,Ch,Bl,Bq,Bt,A4,Bs,Bh,A7,Bj,Bi,Cg,A5,Bc,Ba,A0,ofOpt,Bb,Bu,Bv,B7,Nat.reduceLT,Nat.reduceEqDiff,Aa,Ab,Ac,Am,D6,Hx,Dq,sm7,Tryz.f13,h2,h6,mp,mo,e1,e2,e6,e3,e12,e13,e14,e11,Sh,L9,Es,Na,Ps,Eh,E4]
  refine hQ _ 0 [] false _ (hf.same ?_ ?_ ?_ ?_) ?_ (I1 hk4 hk3 hd (by decide) (by omega) (fun kids hl h14 h9=>by obtain ⟨x,rfl⟩:=zP hl; exact .not _)) hm <;> simp only [A0,Nat.reduceEqDiff,Aa,Ab]
 by_cases eK6:K=6
 ·subst eK6
  have e1:(((6:Nat):Int) == 1)=false:=rfl
  have e2:(((6:Nat):Int) == 2)=false:=rfl
  have e6:(((6:Nat):Int) == 6)=true:=rfl
  have e3:(((6:Nat):Int) == 3)=false:=rfl
  have e12:(((6:Nat):Int) == 12)=false:=rfl
  have e13:(((6:Nat):Int) == 13)=false:=rfl
  have e14:(((6:Nat):Int) == 14)=false:=rfl
  have e11:(((6:Nat):Int) == 11)=false:=rfl
  simp only [Br,A6,Ch,Bl,Bq,Bt,A4,Bs,Bh,A7,Bj,Cb,Bi,Ci,Cg,A5,Bc,Ba,A0,Bo,B5,ofOpt,Bb,Bu,Bv,B7,Nat.reduceLT,Nat.reduceEqDiff,Aa,Ab,Ac,Aj,Ak,Am,D6,Hx,Dq,sm7,Tryz.f13,hf38,bs14,h2,h6,mp,mo,e1,e2,e6,e3,e12,e13,e14,e11,Sh,L9,Es,Sv,Na,Ps,Eh,Vp,E4]
  refine WC.mono (dF ra 14 (by decide) (by decide) S) ?_
  rintro _ ⟨k,rfl,hk⟩
  have hx:=ix14 k hk
  have q1:=Oq szc9 S o 3 (Bp (Jj k)) _ rfl mo (show 3 < 6 by decide)
  have q1:C7 Tryz.prog S 9 (.ptr o 3) (Bp (Jj k))=some (S.put o (exC 6 pos 0 (Jj k) false .nils)):=q1
  simp only [Bs,Bh,A7,Bj,Eb,En,Bi,Cz,A5,Bc,Ba,A0,ofOpt,Nat.reduceLT,Nat.reduceEqDiff,Aa,Ab,Ac,D6,hx,ld9ep,q1,h6,Fd]
  refine hQ _ 0 (Jj k) false _ (hf.same ?_ ?_ ?_ ?_) ?_ (I1 hk4 hk3 hd (signV_len _) (by omega) (fun kids hl h14 h9=>by obtain ⟨x,y,rfl⟩:=zO hl; exact .bin _ _ _ (signV_ok _))) (hm.o_put _) <;> simp only [A0,Nat.reduceEqDiff,Aa,Ab]
 by_cases eK7:K=7
 ·subst eK7
  have e1:(((7:Nat):Int) == 1)=false:=rfl
  have e2:(((7:Nat):Int) == 2)=false:=rfl
  have e6:(((7:Nat):Int) == 6)=false:=rfl
  have e3:(((7:Nat):Int) == 3)=false:=rfl
  have e12:(((7:Nat):Int) == 12)=false:=rfl
  have e13:(((7:Nat):Int) == 13)=false:=rfl
  have e14:(((7:Nat):Int) == 14)=false:=rfl
  have e11:(((7:Nat):Int) == 11)=false:=rfl
  simp only [Br,A6,Ch,Bl,Bq,Bt,A4,Bs,Bh,A7,Bj,Bi,Cg,A5,Bc,Ba,A0,ofOpt,Bb,Bu,Bv,B7,Nat.reduceLT,Nat.reduceEqDiff,Aa,Ab,Ac,Am,D6,Hx,Dq,sm7,Tryz.f13,h2,h6,mp,mo,e1,e2,e6,e3,e12,e13,e14,e11,Sh,L9,Es,Na,Ps,Eh,E4]
  refine hQ _ 0 [] false _ (hf.same ?_ ?_ ?_ ?_) ?_ (I1 hk4 hk3 hd (by decide) (by omega) (fun kids hl h14 h9=>by obtain ⟨x,y,z,rfl⟩:=len_3 hl; exact .ite _ _ _)) hm <;> simp only [A0,Nat.reduceEqDiff,Aa,Ab]
 by_cases eK8:K=8
 ·subst eK8
  have e1:(((8:Nat):Int) == 1)=false:=rfl
  have e2:(((8:Nat):Int) == 2)=false:=rfl
  have e6:(((8:Nat):Int) == 6)=false:=rfl
  have e3:(((8:Nat):Int) == 3)=false:=rfl
  have e12:(((8:Nat):Int) == 12)=false:=rfl
  have e13:(((8:Nat):Int) == 13)=false:=rfl
  have e14:(((8:Nat):Int) == 14)=false:=rfl
  have e11:(((8:Nat):Int) == 11)=false:=rfl
  simp only [Br,A6,Ch,Bl,Bq,Bt,A4,Bs,Bh,A7,Bj,Bi,Cg,A5,Bc,Ba,A0,ofOpt,Bb,Bu,Bv,B7,Nat.reduceLT,Nat.reduceEqDiff,Aa,Ab,Ac,Am,D6,Hx,Dq,sm7,Tryz.f13,h2,h6,mp,mo,e1,e2,e6,e3,e12,e13,e14,e11,Sh,L9,Es,Na,Ps,Eh,E4]
  refine hQ _ 0 [] false _ (hf.same ?_ ?_ ?_ ?_) ?_ (I1 hk4 hk3 hd (by decide) (by omega) (fun kids hl h14 h9=>by obtain ⟨x,y,rfl⟩:=zO hl; exact .arrow _ _)) hm <;> simp only [A0,Nat.reduceEqDiff,Aa,Ab]
 by_cases eK9:K=9
 ·subst eK9
  have e1:(((9:Nat):Int) == 1)=false:=rfl
  have e2:(((9:Nat):Int) == 2)=false:=rfl
  have e6:(((9:Nat):Int) == 6)=false:=rfl
  have e3:(((9:Nat):Int) == 3)=false:=rfl
  have e12:(((9:Nat):Int) == 12)=false:=rfl
  have e13:(((9:Nat):Int) == 13)=false:=rfl
  have e14:(((9:Nat):Int) == 14)=false:=rfl
  have e11:(((9:Nat):Int) == 11)=false:=rfl
  simp only [Br,A6,Ch,Bl,Bq,Bt,A4,Bs,Bh,A7,Bj,Bi,Cg,A5,Bc,Ba,A0,ofOpt,Bb,Bu,Bv,B7,Nat.reduceLT,Nat.reduceEqDiff,Aa,Ab,Ac,Am,D6,Hx,Dq,sm7,Tryz.f13,h2,h6,mp,mo,e1,e2,e6,e3,e12,e13,e14,e11,Sh,L9,Es,Na,Ps,Eh,E4]
  refine hQ _ 0 [] false _ (hf.same ?_ ?_ ?_ ?_) ?_ (I1 hk4 hk3 hd (by decide) (by omega) (fun kids hl h14 h9=>by obtain ⟨x,y,rfl⟩:=zO hl; exact .fby _ _ (h9 rfl _ rfl))) hm <;> simp only [A0,Nat.reduceEqDiff,Aa,Ab]
 by_cases eK10:K=10
 ·subst eK10
  have e1:(((10:Nat):Int) == 1)=false:=rfl
  have e2:(((10:Nat):Int) == 2)=false:=rfl
  have e6:(((10:Nat):Int) == 6)=false:=rfl
  have e3:(((10:Nat):Int) == 3)=false:=rfl
  have e12:(((10:Nat):Int) == 12)=false:=rfl
  have e13:(((10:Nat):Int) == 13)=false:=rfl
  have e14:(((10:Nat):Int) == 14)=false:=rfl
  have e11:(((10:Nat):Int) == 11)=false:=rfl
  simp only [Br,A6,Ch,Bl,Bq,Bt,A4,Bs,Bh,A7,Bj,Bi,Cg,A5,Bc,Ba,A0,ofOpt,Bb,Bu,Bv,B7,Nat.reduceLT,Nat.reduceEqDiff,Aa,Ab,Ac,Am,D6,Hx,Dq,sm7,Tryz.f13,h2,h6,mp,mo,e1,e2,e6,e3,e12,e13,e14,e11,Sh,L9,Es,Na,Ps,Eh,E4]
  refine hQ _ 0 [] false _ (hf.same ?_ ?_ ?_ ?_) ?_ (I1 hk4 hk3 hd (by decide) (by omega) (fun kids hl h14 h9=>by obtain ⟨x,rfl⟩:=zP hl; exact .pre _)) hm <;> simp only [A0,Nat.reduceEqDiff,Aa,Ab]
 by_cases eK11:K=11
 ·subst eK11
  have e1:(((11:Nat):Int) == 1)=false:=rfl
  have e2:(((11:Nat):Int) == 2)=false:=rfl
  have e6:(((11:Nat):Int) == 6)=false:=rfl
  have e3:(((11:Nat):Int) == 3)=false:=rfl
  have e12:(((11:Nat):Int) == 12)=false:=rfl
  have e13:(((11:Nat):Int) == 13)=false:=rfl
  have e14:(((11:Nat):Int) == 14)=false:=rfl
  have e11:(((11:Nat):Int) == 11)=true:=rfl
  have q1:=Oq szc9 S o 3 (Bp (Hk k9)) _ rfl mo (show 3 < 6 by decide)
  have q1:C7 Tryz.prog S 9 (.ptr o 3) (Bp (Hk k9))=some (S.put o (exC 11 pos 0 (Hk k9) false .nils)):=q1
  have m1:=hm.o_put (exC 11 pos 0 (Hk k9) false .nils)
  generalize hS1:S.put o (exC 11 pos 0 (Hk k9) false .nils)=S1 at q1 m1
  have mp1:=m1.mp
  have q2:=Oq szc4 S1 o 4 (.v (.bool rb)) _ rfl m1.mo (show 4 < 6 by decide)
  have q2:C7 Tryz.prog S1 4 (.ptr o 4) (.v (.bool rb))=some (S1.put o (exC 11 pos 0 (Hk k9) rb .nils)):=q2
  simp only [Br,A6,Ch,Bl,Bq,Bt,A4,Bs,Bh,A7,Bj,Bi,Ci,Cg,A5,Bc,Ba,A0,ofOpt,Bb,Bu,Bv,B7,Nat.reduceLT,Nat.reduceEqDiff,Aa,Ab,Ac,Am,D6,Hx,Dq,sm7,Tryz.f13,h2,h6,mp,mo,e1,e2,e6,e3,e12,e13,e14,e11,Sh,L9,Es,Na,Ps,Eh,E4]
  refine G4 [(0,true),(1,true),(2,true),(3,true),(4,true),(2,false),(5,true),(6,true)] (by kernel_rfl) (by kernel_rfl) ?_
  simp only [Bs,A5,Bc,Ba,A0,ofOpt,Nat.reduceLT,Nat.reduceEqDiff,Aa,Ab,Ac,Af,Ag,Ah,Am,D6,q1,q2,h8,mp1,lB,h2,h6,mp,ldc4,Es,rawC4,Fd,Js,Ew,Dj,Gn,C0,P8,P2,Cn,D9,Gu,Dy,Ed]
  refine hQ _ 0 (Hk k9) rb _ (hf.same ?_ ?_ ?_ ?_) ?_ (I1 hk4 hk3 hd hnm (by omega) (fun kids hl h14 h9=>by obtain ⟨x,rfl⟩:=zP hl; exact .when _ _ _ (Qu _))) (m1.o_put _) <;> simp only [A0,Nat.reduceEqDiff,Aa,Ab]
 by_cases eK12:K=12
 ·subst eK12
  have e1:(((12:Nat):Int) == 1)=false:=rfl
  have e2:(((12:Nat):Int) == 2)=false:=rfl
  have e6:(((12:Nat):Int) == 6)=false:=rfl
  have e3:(((12:Nat):Int) == 3)=false:=rfl
  have e12:(((12:Nat):Int) == 12)=true:=rfl
  have e13:(((12:Nat):Int) == 13)=false:=rfl
  have e14:(((12:Nat):Int) == 14)=false:=rfl
  have e11:(((12:Nat):Int) == 11)=false:=rfl
  have q1:=Oq szc9 S o 3 (Bp (Hk k9)) _ rfl mo (show 3 < 6 by decide)
  have q1:C7 Tryz.prog S 9 (.ptr o 3) (Bp (Hk k9))=some (S.put o (exC 12 pos 0 (Hk k9) false .nils)):=q1
  simp only [Br,A6,Ch,Bl,Bq,Bt,A4,Bs,Bh,A7,Bj,Eb,En,Bi,Ci,Cg,A5,Bc,Ba,A0,ofOpt,Bb,Bu,Bv,B7,Nat.reduceLT,Nat.reduceEqDiff,Aa,Ab,Ac,Am,D6,Hx,Dq,sm7,Tryz.f13,q1,h8,h2,h6,mp,mo,e1,e2,e6,e3,e12,e13,e14,e11,Sh,L9,Es,Na,Ps,Eh,E4,Fd]
  refine hQ _ 0 (Hk k9) false _ (hf.same ?_ ?_ ?_ ?_) ?_ (I1 hk4 hk3 hd hnm (by omega) (fun kids hl h14 h9=>by obtain ⟨x,y,rfl⟩:=zO hl; exact .merge _ _ _ (Qu _))) (hm.o_put _) <;> simp only [A0,Nat.reduceEqDiff,Aa,Ab]
 by_cases eK13:K=13
 ·subst eK13
  have e1:(((13:Nat):Int) == 1)=false:=rfl
  have e2:(((13:Nat):Int) == 2)=false:=rfl
  have e6:(((13:Nat):Int) == 6)=false:=rfl
  have e3:(((13:Nat):Int) == 3)=false:=rfl
  have e12:(((13:Nat):Int) == 12)=false:=rfl
  have e13:(((13:Nat):Int) == 13)=true:=rfl
  have e14:(((13:Nat):Int) == 14)=false:=rfl
  have e11:(((13:Nat):Int) == 11)=false:=rfl
  have q1:=Oq szc9 S o 3 (Bp (Hk k9)) _ rfl mo (show 3 < 6 by decide)
  have q1:C7 Tryz.prog S 9 (.ptr o 3) (Bp (Hk k9))=some (S.put o (exC 13 pos 0 (Hk k9) false .nils)):=q1
  simp only [Br,A6,Ch,Bl,Bq,Bt,A4,Bs,Bh,A7,Bj,Eb,En,Bi,Ci,Cg,A5,Bc,Ba,A0,ofOpt,Bb,Bu,Bv,B7,Nat.reduceLT,Nat.reduceEqDiff,Aa,Ab,Ac,Am,D6,Hx,Dq,sm7,Tryz.f13,q1,h8,h2,h6,mp,mo,e1,e2,e6,e3,e12,e13,e14,e11,Sh,L9,Es,Na,Ps,Eh,E4,Fd]
  refine hQ _ 0 (Hk k9) false _ (hf.same ?_ ?_ ?_ ?_) ?_ (I1 hk4 hk3 hd hnm (by omega) (fun kids hl h14 h9=>by exact .call _ _ (Qu _))) (hm.o_put _) <;> simp only [A0,Nat.reduceEqDiff,Aa,Ab]
 by_cases eK14:K=14
 ·subst eK14
  have e1:(((14:Nat):Int) == 1)=false:=rfl
  have e2:(((14:Nat):Int) == 2)=false:=rfl
  have e6:(((14:Nat):Int) == 6)=false:=rfl
  have e3:(((14:Nat):Int) == 3)=false:=rfl
  have e12:(((14:Nat):Int) == 12)=false:=rfl
  have e13:(((14:Nat):Int) == 13)=false:=rfl
  have e14:(((14:Nat):Int) == 14)=true:=rfl
  have e11:(((14:Nat):Int) == 11)=false:=rfl
  have q1:=Oq szc9 S o 3 (Bp (Hk k9)) _ rfl mo (show 3 < 6 by decide)
  have q1:C7 Tryz.prog S 9 (.ptr o 3) (Bp (Hk k9))=some (S.put o (exC 14 pos 0 (Hk k9) false .nils)):=q1
  simp only [Br,A6,Ch,Bl,Bq,Bt,A4,Bs,Bh,A7,Bj,Eb,En,Bi,Ci,Cg,A5,Bc,Ba,A0,ofOpt,Bb,Bu,Bv,B7,Nat.reduceLT,Nat.reduceEqDiff,Aa,Ab,Ac,Am,D6,Hx,Dq,sm7,Tryz.f13,q1,h8,h2,h6,mp,mo,e1,e2,e6,e3,e12,e13,e14,e11,Sh,L9,Es,Na,Ps,Eh,E4,Fd]
  refine hQ _ 0 (Hk k9) false _ (hf.same ?_ ?_ ?_ ?_) ?_ (I1 hk4 hk3 hd hnm (by omega) (fun kids hl h14 h9=>by exact .await _ _ (Qu _) (h14 rfl))) (hm.o_put _) <;> simp only [A0,Nat.reduceEqDiff,Aa,Ab]
 omega
theorem sL:∀ (l:List PE) (m:Int),m ≤ Pu l m
 | [],m=>Int.le_refl _
 | e :: r,m=>by
  show m ≤ Pu r (if Lb e > m then Lb e else m)
  have:=sL r (if Lb e > m then Lb e else m)
  split at this <;> rename_i h
  ·rw [if_pos h]; omega
  ·rw [if_neg h]; omega
theorem some_e {d' K pos:Nat} {n:Int} {name:List UInt8} {off:Bool} {need:Nat} {l:List PE} (hd:d' ≤ 1000) (hr:Ready (d' + 1) K n name off need) (hl:l.length=need) (hs:∀ x ∈ l,SomeE d' x) (hc:∀ j x,l[j]? = some x → oI K j → G8 x=true):SomeE (d' + 1) (.mk K pos n name off l):=by
 obtain ⟨h1,h2,h3,h4,h5⟩:=hr
 refine ⟨.mk _ _ _ _ _ _ (h5 l hl (fun hK x hx=>?_) (fun hK x hx=>hc 0 x hx (.inr ⟨hK,rfl⟩))) (fun e he=>(hs e he).good),.mk _ _ _ _ _ _ h4 h3 (fun e he=>(hs e he).fit),.mk _ _ _ _ _ _ (by omega) (fun e he=>(hs e he).few),?_,?_⟩
 ·obtain ⟨j,hj,rfl⟩:=List.mem_iff_getElem.1 hx
  exact hc j _ (List.getElem?_eq_getElem hj) (.inl hK)
 ·rw [Iz]
  have a1:=pB (4 ^ d') l (fun e he=>(hs e he).size)
  have a2:l.length * 4 ^ d' ≤ 3 * 4 ^ d':=Nat.mul_le_mul_right _ (by omega)
  have a3:0 < 4 ^ d':=Nat.pow_pos (by decide)
  rw [Nat.pow_succ]; omega
 ·have a1:=sK (d':Int) l 0 (by omega) (fun e he=>(hs e he).deep)
  have a2:=sL l 0
  show IntKind.i64.wrap (Pu l 0 + 1) ≤ _
  rw [Kq _ (by omega)]
  omega
set_option maxHeartbeats 16000000 in
theorem gX (d':Nat) (hd:d' ≤ 900) (hrec:0 < d' → Y6 d'):Y6 (d' + 1):=by
 intro zs S hz hS
 cases hz with
 | mk rk ra rn rs rb kv hn hk =>
 refine Dx Tryz.f13 (by kernel_rfl) (by kernel_rfl) (by kernel_rfl) (show (_:Nat) ≤ _ from by show (_:Nat) ≤ _; simp [Tryz.f13]) ?_
 rw [f13_is]
 show W E8 157 _ _ _ _
 obtain ⟨fn1,hf38⟩:=Yo
 have g1:=Db S (L8 rk ra rn rs rb kv)
 have k1:=C4 S (L8 rk ra rn rs rb kv)
 have n1:(S.newBox (L8 rk ra rn rs rb kv)).next=S.next + 1:=rfl
 generalize hS1:S.newBox (L8 rk ra rn rs rb kv)=S1 at g1 k1 n1
 have g2:=Db S1 exZ
 have p2:(S1.newBox exZ).mem.get S.next=_:=(Gc (by omega)).trans g1
 have k2:=k1.trans (C4 S1 exZ)
 have n2:(S1.newBox exZ).next=S1.next + 1:=rfl
 generalize hS2:S1.newBox exZ=S2 at g2 p2 k2 n2
 have alS1:=al24 S1
 rw [hS2] at alS1
 simp only [A6,Ch,Bl,A4,Bh,A7,Bj,Bi,A5,Bc,Ba,Cc,A0,A1,ofOpt,ofOptS,Bb,Bu,Nat.reduceLT,Nat.reduceAdd,Nat.reduceEqDiff,Aa,Ab,Ac,D6,sm0,sm1,sm2,Tryz.f13,Cd,Ce,hS1,alS1,bs19]
 refine oG (x:=⟨12,6,[0,1,2,3,4,8,9,10,5,6,7,11],[13]⟩) [(0,true),(1,true),(2,true),(3,true),(4,true),(8,true),(9,true),(10,true),(5,true),(9,false),(6,true),(7,true),(11,true),(12,true),(13,true)] (by kernel_rfl) (by kernel_rfl) (by decide) ?_
 obtain ⟨pos,hpos,_⟩:=aT ra 4095 (by decide)
 have hpos':bits .and .i64 ra 4095=(pos:Int):=hpos
 have hl19:=len19 S2
 simp only [A5,Bc,Ba,A0,A1,Bo,B5,ofOpt,Bb,Bv,Nat.reduceLT,Nat.reduceEqDiff,Aa,Ab,Ac,Af,Ag,Ah,Aj,Ak,Am,D6,Hx,p2,hf38,hl19,hpos',eG,fL,Ys,L9,Es,yN,Sv,Eh,Vp,Dj,C0,Df,Cn,Gu]
 refine WC.mono (dF rk 19 (by decide) (by decide) S2) ?_
 rintro _ ⟨k,rfl,hk19⟩
 obtain ⟨K,hx,hK⟩:=ix19 k hk19
 have hb:=bld24h (K:Int) pos
 have g3:=Db S2 exZ
 have p3:(S2.newBox exZ).mem.get S.next=_:=(Gc (by omega)).trans p2
 have q3:(S2.newBox exZ).mem.get S1.next=_:=(Gc (by omega)).trans g2
 have k3:=k2.trans (C4 S2 exZ)
 have n3:(S2.newBox exZ).next=S2.next + 1:=rfl
 have alS2:=al24 S2
 generalize hS3:S2.newBox exZ=S3 at g3 p3 q3 k3 n3 alS2
 have q4:=oY g3 rfl (show (exC K pos 0 [] false .nils).length=6 from rfl)
 have hm:Mem3 S S.next S1.next S2.next S3.next (L8 rk ra rn rs rb kv) (exC K pos 0 [] false .nils) (S3.put S2.next (exC K pos 0 [] false .nils)):=⟨Ee k3 (by omega) _,(Et (by omega)).trans p3,(Et (by omega)).trans q3,Ek _ _ _,by show _ ∧ _ ∧ _ ∧ _ ∧ _ ∧ _ ∧ _ ∧ _ ∧ _ ∧ S3.next ≤ S3.next; omega⟩
 generalize hS4:S3.put S2.next (exC K pos 0 [] false .nils)=S4 at q4 hm
 have q4':C7 Tryz.prog S3 24 (.ptr S2.next 0) (.agg [.v (.int .i64 (K:Int)),D0 pos,.v (.int .i64 0),Bp [],.v (.bool false),.nils])=some S4:=q4
 simp only [Bl,A4,A5,Bc,Ba,A0,A1,ofOpt,ofOptS,Bu,Nat.reduceLT,Nat.reduceEqDiff,Aa,Ab,Ac,D6,p2,hx,Jz,hb,alS2,q4',L9,Es,Sv,Ew,Dj,Gn,C0,P8,P2,Cn,Du,D9,Dy,Ed,Mt]
 refine sm3_w (d:=d' + 1) hK (by omega) ⟨?_,?_,?_,?_⟩ hm (fun t1 K1 S5 f1 hK1 hd1 m1=>?_)
 iterate 4 (simp only [A0,A1,Nat.reduceEqDiff,Aa,Ab])
 simp only [Bl,A4]
 refine sm5_w hK1 f1 m1 (fun t2 k4 k3 hk4 hk3 f2 h7=>?_)
 simp only [Bl,A4]
 refine sm6_w (pos:=0) f2 m1 (fun t3 k9 f3 h73 h8=>?_)
 simp only [Bl,A4]
 refine sm7_w hn hK1 hk4 hk3 hd1 f3 h8 m1 (fun t4 n name off S6 f4 h74 hrd m2=>?_)
 have h7':t4.get 7=some (.v (.int .i64 (Jx K1 k4 k3:Int))):=(h74.trans h73).trans h7
 simp only [A6,Bl,Bt,D5,A4,Bh,A7,Bj,Bi,A5,Bc,Ba,ofOpt,Bb,Nat.reduceLT,Ac,sm21,Tryz.f13,h7']
 have hneed:=hrd.1
 have h2d:=hrd.2.1
 refine WX.mono (xQ (d':=d') (need:=Jx K1 k4 k3) (fun h=>by have:=h2d h; omega) (fun h=>hrec (by have:=h2d h; omega)) hk hneed (Jx K1 k4 k3) 0 _ S6 .nils [] [] (by omega) ?_ ?_ (f4.same ?_ ?_ ?_ ?_) m2 (.inl ⟨rfl,rfl⟩) .nil rfl (fun x hx=>by cases hx) (fun j x hx=>by simp at hx)) ?_
 ·simp only [A0,Nat.reduceEqDiff,Aa,Ab]; rfl
 ·simp only [A0,Nat.reduceEqDiff,Aa,Ab]; rfl
 iterate 4 (simp only [A0,Nat.reduceEqDiff,Aa,Ab])
 rintro _ ⟨t5,S7,v,es,l,rfl,f5,m3,r3,hrl,hll,hsl,hcl⟩
 have h6:=f5.t6
 have h4:=f5.t4
 have l1:=I3 m3.mo (show (exC K1 pos n name off v).length=6 from rfl)
 have q5:=oY m3.mq rfl (show (exC K1 pos n name off v).length=6 from rfl)
 have l2:=I3 (Ek S7 S1.next (exC K1 pos n name off v)) (show (exC K1 pos n name off v).length=6 from rfl)
 simp only [A6,Bl,Bw,A4,Ey,F7,Bh,A7,Bj,Eb,En,Bi,A5,Bc,Ba,A0,ofOpt,Bg,By,Bf,Cl,Nat.reduceLT,Nat.reduceEqDiff,Aa,Ab,Ac,D6,sm34,Tryz.f13,h6,h4,l1,q5,l2]
 have hkv:RepK v l:=by
  rcases r3 with ⟨rfl,rfl⟩ | ⟨k,rfl,_⟩
  ·cases hrl; exact .nil
  ·exact .row _ _ _ _ hrl
 exact ⟨_,.mk K1 pos n name off l,_,rfl,.mk _ _ _ _ _ _ _ hkv,some_e (by omega) hrd hll hsl hcl,Ee m3.keep (by omega) _⟩
theorem xP:∀ d:Nat,d ≤ 900 → Y6 (d + 1)
 | 0,_=>gX 0 (by omega) (fun h=>absurd h (Nat.lt_irrefl _))
 | d + 1,h=>gX (d + 1) h (fun _=>xP d (by omega))
end Go.Ax
noncomputable section
namespace Go.Ax
open Go.RowKit Go.Proofs
set_option maxRecDepth 100000
def Fj {α:Type} (x:PR α):Prop:=∀ a e,x=.bad a e → e ≠ 0
section
variable {α β:Type}
theorem Fj.ok {a:α} {j:Nat}:Fj (.ok a j):=fun _ _ h=>by cases h
theorem Fj.out:Fj (.out:PR α):=fun _ _ h=>by cases h
theorem Fj.bad {a e:Nat} (h:e ≠ 0):Fj (.bad a e:PR α):=fun _ _ h'=>by injection h' with h1 h2; subst h2; exact h
theorem Fj.bind {x:PR α} {f:α → Nat → PR β} (h:Fj x) (hf:∀ a j,Fj (f a j)):Fj (x.bind f):=by
 cases x with
 | ok a j=>exact hf a j
 | bad a e=>exact .bad (h a e rfl)
 | out=>exact .out
theorem Fj.ite {c:Prop} [Decidable c] {x y:PR α} (h1:Fj x) (h2:Fj y):Fj (if c then x else y):=by
 by_cases h:c
 ·rw [if_pos h]; exact h1
 ·rw [if_neg h]; exact h2
end
section
variable {ts:List Tk}
end
end Go.Ax
noncomputable section
namespace Go.Ax
open Go.RowKit Go.Proofs
set_option maxRecDepth 100000
theorem fbe33 (x y:List AV):Ea .eql (.agg x) (.agg y)=none:=_root_.id rfl
theorem eq7e (f:T AV) (S:St) (o:Oper) (a e:Nat):Ma Tryz.prog G7 f S o .eql 33 (.agg (Dc a e)) (.agg (Dc 0 0))=.val (.v (.bool (((a:Int) == 0) && (((e:Int) == 0) && true)))) S:=by
 unfold Ma
 have h:Lh Tryz.prog .eql 33 (.agg (Dc a e)) (.agg (Dc 0 0))=some (.v (.bool (((a:Int) == 0) && (((e:Int) == 0) && true)))):=fe33 a e
 rw [h]
theorem eq7ez (f:T AV) (S:St) (o:Oper):Ma Tryz.prog G7 f S o .eql 33 (.agg (Dc 0 0)) (.agg (Dc 0 0))=.val (.v (.bool true)) S:=eq7e f S o 0 0
theorem fb_self (x:ByteArray):Ea .eql (.v (.string x)) (.v (.string x))=some (.v (.bool true)):=by
 show some (AV.v (.bool (Kl x.data.toList x.data.toList)))=_
 rw [I9]; simp
theorem olen9 (S:St) (l:List UInt8):Hp Tryz.prog S 9 (.v (.string ⟨⟨l⟩⟩))=some l.length:=by
 have u9:Tryz.prog.underlying 9=some .string:=by kernel_rfl
 unfold Hp
 rw [u9]; rfl
end Go.Ax
noncomputable section
namespace Go.Ax
open Go.RowKit Go.Proofs
set_option maxRecDepth 100000
theorem stops_fin:Hf 0 [finT]:=by
 intro k _ h
 have h:([]:List UInt8) ∈ Ep k:=h
 unfold Ep at h
 split at h <;> simp at h
theorem back_read {e:PE} (hg:GoodT e) (hd:Lb e ≤ 40) (hl:(Dz e).length ≤ 4000):∃ ts e',Kp (Dz e)=some (.inr ts) ∧ P1 70000 (.inr ts)=some (.inl e') ∧ LikeE e e':=by
 have hsp:=(spelt_e hg).1 [] [finT] (fun c q h=>by cases h) .fin
 rw [List.append_nil] at hsp
 obtain ⟨ts,ht,hs⟩:=sp_lex hsp hl
 obtain ⟨e',he,N,hN⟩:=(back_e hg).1.a (L:=0) (Nat.zero_le _) (by decide) hs stops_fin
 have hN:∀ n,N ≤ n → P ts n .expr 0=.ok e' (0 + (Gy e).length):=hN
 have hk:(tk ts (0 + (Gy e).length)).kind=5:=hs.skip.cons.1
 have hok:=yL ht
 refine ⟨ts,e',ht,?_,he⟩
 have hne:U4 ts 70000 0 ≠ .out:=fun h=>hok (by unfold P1; simp only [h])
 have hP:=P_mono (ts:=ts) (Nat.le_max_right N 70000) .expr 0 (Re hne)
 rw [hN _ (Nat.le_max_left N 70000)] at hP
 have hex:U4 ts 70000 0=.ok e' (0 + (Gy e).length):=by
  unfold U4 Gs
  rw [← hP]
  show (if Lb e' > 40 then _ else _)=_
  rw [if_neg (by rw [← Y0 he]; omega)]
 unfold P1
 simp only [hex,hk,Aa]
theorem i8_15 (args:List AV) (S:St) (Q:R → Prop) (h:Q (Q4 args S)):WC E8 15 args S Q:=Lp (g:=Q4) (by kernel_rfl) h
theorem i8_17 {v:AV} {e:PE} (hp:Xy v e) (S:St) (Q:R → Prop) (h:Q (.ret (Bp (Dz e)) S)):WC E8 17 [v] S Q:=by
 refine Lp (g:=F4 gT) (by kernel_rfl) ?_
 unfold F4
 rw [text_is hp]
 exact h
theorem fnb_13:∃ fn,E8.F 13=some fn:=Option.isSome_iff_exists.1 (by kernel_rfl)
theorem fnb_14:∃ fn,E8.F 14=some fn:=Option.isSome_iff_exists.1 (by kernel_rfl)
theorem fnb_15:∃ fn,E8.F 15=some fn:=Option.isSome_iff_exists.1 (by kernel_rfl)
theorem fnb_16:∃ fn,E8.F 16=some fn:=Option.isSome_iff_exists.1 (by kernel_rfl)
theorem fnb_17:∃ fn,E8.F 17=some fn:=Option.isSome_iff_exists.1 (by kernel_rfl)
noncomputable def mJ:Code:=match Tryz.f3.body with
 | some (.seq _ (.seq _ r))=>r
 | _=>.skip
def EndsBk (r:O):Prop:=∃ f' S',r=.out .ret ⟨f',[]⟩ S' ∧ f'.get 2=some (.v (.bool true))
set_option maxHeartbeats 16000000 in
theorem pbk_rest {ys:List AV} (hr:RawE (.agg ys)) (S:St) (hS:2 ≤ S.next) (t:T AV) (h1:t.get 1=some (.ep ys)):W E8 36 mJ ⟨t,[]⟩ S EndsBk:=by
 obtain ⟨fn1,hf13⟩:=fnb_13
 obtain ⟨fn2,hf14⟩:=fnb_14
 obtain ⟨fn3,hf15⟩:=fnb_15
 obtain ⟨fn4,hf16⟩:=fnb_16
 obtain ⟨fn5,hf17⟩:=fnb_17
 have l0:=J5 S (Lm hr)
 simp only [A6,Bl,A7,Bj,Cb,Bi,A5,Bc,Ba,A0,Bo,B5,ofOpt,Bb,Nat.reduceLT,Aa,Ac,Aj,Ak,D6,mJ,Tryz.f3,h1,l0,hf13]
 refine WC.mono (xP 5 (by omega) ys S hr hS) ?_
 rintro _ ⟨zs,e,S1,rfl,hre,hse,k1⟩
 have hzl:zs.length=6:=by cases hre; rfl
 have g1:=Db S1 exZ
 have k2:=C4 S1 exZ
 have n2:(S1.newBox exZ).next=S1.next + 1:=rfl
 have q1:=oY g1 rfl hzl
 have g2:=Ek (S1.newBox exZ) S1.next zs
 have k3:Eg S1 ((S1.newBox exZ).put S1.next zs):=Ee k2 (Nat.le_refl _) _
 have n3:((S1.newBox exZ).put S1.next zs).next=S1.next + 1:=rfl
 generalize hS2:(S1.newBox exZ).put S1.next zs=S2 at q1 g2 k3 n3
 have l2:=I3 g2 hzl
 simp only [A6,Bl,A4,Bh,A7,Bj,Eb,Cb,En,Bi,Cz,A5,Bc,Ba,A0,Bo,B5,ofOpt,ofOptS,Nat.reduceLT,Nat.reduceEqDiff,Aa,Ab,Ac,Aj,Ak,D6,al24,q1,l2,hf14]
 have hn2:2 ≤ S2.next:=Nat.le_trans hS (Nat.le_trans k1.1 k3.1)
 have hsz:Gj e ≤ 4096:=hse.size
 refine WC.mono (ref_ok hse.good hse.few hse.fit (by omega) zs hre S2 hn2) ?_
 rintro _ ⟨S3,rfl,k4⟩
 have g3:=(k4.2 S1.next (by omega)).trans g2
 have hlen:Hp Tryz.prog S3 9 (.v (.string ⟨⟨Dz e⟩⟩))=some (Dz e).length:=olen9 S3 (Dz e)
 unfold Bp
 by_cases hbig:4000 < (Dz e).length
 ·have hgt:(((Dz e).length:Int) > 4000):=by omega
  simp only [Br,A6,Bl,Bq,Bw,A4,B0,Bh,A7,Bj,Bi,Cz,Ci,A5,Bc,Ba,A0,Bo,B5,ofOpt,Bb,Bv,Do,Nat.reduceLT,Nat.reduceEqDiff,Aa,Ab,Ac,Aj,Ak,Am,Ap,D6,hlen,hgt]
  exact ⟨_,_,rfl,by simp only [A0,Nat.reduceEqDiff,Ab,Aa]⟩
 ·have hgt:¬ (((Dz e).length:Int) > 4000):=by omega
  simp only [Br,A6,Bl,Bq,Bw,A4,B0,Bh,A7,Bj,Cb,Bi,Cz,Cg,A5,Bc,Ba,A0,Bo,B5,ofOpt,Bb,Bv,Do,Nat.reduceLT,Nat.reduceEqDiff,Aa,Ab,Ac,Aj,Ak,Am,Aq,D6,hlen,hgt,hf15]
  have hdp:Lb e ≤ 40:=by have:=hse.deep; omega
  obtain ⟨ts,e',ht,hread,hlike⟩:=back_read hse.good hdp (by omega)
  refine i8_15 _ _ _ ?_
  have hpc:Q4 [.v (.string ⟨⟨Dz e⟩⟩)] S3=Q4 [Bp (Dz e)] S3:=rfl
  rw [hpc]
  rcases expr_is (l:=Dz e) (by omega) ht S3 with ⟨e2,xs,hr2,hp2,hx2⟩ | ⟨y,hr2,hp2⟩
  ·have he2:e2=e':=by rw [hread] at hr2; injection hr2 with hr2; injection hr2 with hr2; exact hr2.symm
   subst he2
   rw [hp2]
   have hxl:xs.length=6:=by cases hx2; rfl
   have a1:=Db S3 exZ
   have a2:=Db (S3.newBox exZ) (Dc 0 0)
   have b1:((S3.newBox exZ).newBox (Dc 0 0)).mem.get S3.next=_:=(Gc (Nat.lt_succ_self _)).trans a1
   have b3:((S3.newBox exZ).newBox (Dc 0 0)).mem.get S1.next=_:=(Gc (by have:=k4.1; show S1.next < S3.next + 1; omega)).trans ((Gc (by have:=k4.1; omega)).trans g3)
   have kk:=(C4 S3 exZ).trans (C4 (S3.newBox exZ) (Dc 0 0))
   have nn:(S3.newBox exZ).next=S3.next + 1:=rfl
   have nn2:((S3.newBox exZ).newBox (Dc 0 0)).next=S3.next + 1 + 1:=rfl
   generalize hS4:(S3.newBox exZ).newBox (Dc 0 0)=S4 at a2 b1 b3 kk nn2
   have q4:C7 Tryz.prog S4 30 (.ptr S3.next 0) (.agg xs)=some (S4.put S3.next xs):=Sg b1 rfl hxl
   have c1:=Ek S4 S3.next xs
   have c2:(S4.put S3.next xs).mem.get (S3.next + 1)=some (.box (Dc 0 0)):=(Et (by omega)).trans a2
   have c3:(S4.put S3.next xs).mem.get S1.next=some (.box zs):=(Et (by have:=k4.1; omega)).trans b3
   have q5:C7 Tryz.prog (S4.put S3.next xs) 33 (.ptr (S3.next + 1) 0) (.agg (Dc 0 0))=some ((S4.put S3.next xs).put (S3.next + 1) (Dc 0 0)):=O2 c2 rfl rfl
   have d1:((S4.put S3.next xs).put (S3.next + 1) (Dc 0 0)).mem.get S3.next=some (.box xs):=(Et (by omega)).trans c1
   have d3:((S4.put S3.next xs).put (S3.next + 1) (Dc 0 0)).mem.get S1.next=some (.box zs):=(Et (by have:=k4.1; omega)).trans c3
   have q7:=H9 (S4.put S3.next xs) (S3.next + 1) (Dc 0 0) rfl
   have n5:2 ≤ ((S4.put S3.next xs).put (S3.next + 1) (Dc 0 0)).next:=by show 2 ≤ S4.next; have:=k4.1; omega
   generalize hS5:(S4.put S3.next xs).put (S3.next + 1) (Dc 0 0)=S5 at q5 d1 d3 q7 n5
   have l5:=ld30 d1 hxl
   have l6:=I3 d3 hzl
   simp only [A6,Bl,A4,Bh,A7,Bj,Eb,Cb,En,Bi,Cz,A5,Bc,Ba,A0,Bo,B5,ofOpt,ofOptS,Bb,Bu,Nat.reduceLT,Nat.reduceEqDiff,Aa,Ab,Ac,Af,Ag,Ah,Ai,Aj,Ak,Al,Am,D6,Hx,Cj,Fy,Mv,hS4,nn,q4,q5,q7,l5,l6,bd33,nn33,fbe33,eq7ez,hf16]
   refine WC.mono (same_w hse.few e2 xs zs hlike hx2 hre S5 n5) ?_
   rintro _ ⟨S6,rfl,k6⟩
   have l7:=ld30 ((k6.2 S3.next (by rw [← hS5]; show S3.next < S4.next; omega)).trans d1) hxl
   have e0:((0:Int) == 0)=true:=rfl
   simp only [A7,Bj,Cb,Bi,Cz,A5,Bc,Ba,A0,Bo,B5,ofOpt,Bb,Bv,B7,Nat.reduceLT,Nat.reduceEqDiff,Aa,Ab,Ac,Af,Ag,Ah,Ai,Aj,Ak,Al,Am,D6,l7,hf17]
   obtain ⟨f1,f2⟩:=dY hlike hse.fit
   refine i8_17 ⟨hx2,f1,by omega⟩ S6 _ ?_
   rw [← X4 hlike]
   unfold Bp
   simp only [Bw,A4,Bh,A7,Bj,Bi,Cz,A5,Bc,Ba,A0,ofOpt,Nat.reduceLT,Nat.reduceEqDiff,Aa,Ab,Ac,Af,Ag,Ah,Ai,Al,Am,D6,Cy,fb_self]
   exact ⟨_,_,rfl,by simp only [A0,Nat.reduceEqDiff,Ab,Aa]⟩
  ·rw [hread] at hr2; injection hr2 with hr2; cases hr2
end Go.Ax
noncomputable section
namespace Go.Ax
open Go.RowKit Go.Proofs
set_option maxRecDepth 100000
def puI0 (args:List AV):Option AV:=match args with
 | [.v (.string s),.v (.int .i64 10),.v (.int .i64 64)]=>if s.data.toList ≠ [] ∧ s.data.toList.all Uv=true ∧ Io 0 s.data.toList < 18446744073709551616 ∧ s.size ≤ 9223372036854775806 then some (.tup [.v (.int .u64 (Io 0 s.data.toList)),.v .nilIface]) else none
 | _=>none
def E0:Env:={ P:=Tryz.prog,G:=fun _=>none,F:=E1.F,I:=fun k=>Bool.rec (Bool.rec none (some (Sb 6)) (Nat.beq k 94)) (some (F4 puI0)) (Nat.beq k 133),M:=rowM }
theorem e0_ok:E0.Ok:=⟨fun k fn h=>To.fn k fn h⟩
theorem e0_mix:E0.P.follows .mixedOrders=true:=Tp
theorem puI0_ok:∀ args a,puI0 args=some a → ∀ γ w (vs:List Value),VRL γ w args vs → Calls Tryz.prog 133 vs.toArray w fun e w'=>Below w.heap.size w w' ∧ ∃ v,e=.returned v ∧ ∀ γ w,VR γ w a v:=by
 intro args a h γ w vs hv
 unfold puI0 at h
 split at h
 ·rename_i s
  split at h
  ·rename_i hc
   obtain ⟨h0,h1,h2,h3⟩:=hc
   injection h with h; subst h
   obtain ⟨x,y,z,rfl,hx,hy,hz⟩:=hv.three
   cases hx; cases hy; cases hz
   refine (Tryz.strconv_ParseUint_10_at64_ok s h3 _ (qC h0 h1 h2) w).mono fun e w' he=>⟨?_,_,he.1,fun γ w=>?_⟩
   ·rcases he.2 with rfl | rfl
    ·exact .refl _ _
    ·exact Lib.bytesWorld_below _ _ _
   ·exact .tup _ _ rfl (fun k hk hk'=>by
     match k,hk with
     | 0,_=>exact .v _ rfl
     | 1,_=>exact .v _ rfl)
  ·cases h
 ·cases h
theorem e0_intr:Kg E0:=fun k g hk base w0 args S hne γ w vs hS hg hv=>by
 have hk2:(Bool.rec (Bool.rec none (some (Sb 6)) (Nat.beq k 94)) (some (F4 puI0)) (Nat.beq k 133):Option (List AV → St → R))=some g:=hk
 cases hb:Nat.beq k 133 with
 | false =>
  rw [hb] at hk2
  cases hc:Nat.beq k 94 with
  | false=>rw [hc] at hk2; cases hk2
  | true =>
   rw [hc] at hk2
   injection hk2 with hk2; subst hk2
   have:k=94:=Nat.eq_of_beq_eq_true hc
   subst this
   exact grow_I base w0 args S hne γ w vs hS hv
 | true =>
  rw [hb] at hk2
  injection hk2 with hk2; subst hk2
  have:k=133:=Nat.eq_of_beq_eq_true hb
  subst this
  exact plainI_ok (P:=Tryz.prog) (k:=133) puI0_ok base w0 args S hne γ w vs hS hv
theorem pY (w:World):Calls Tryz.prog 12 #[] w fun e w'=>e=.returned (.bool true) ∧ Below w.heap.size w w' :=
 sQ (E:=E0) e0_ok e0_intr e0_mix rfl (m:=2000) (k:=12) (args:=[]) (by kernel_rfl) (by kernel_rfl) (vs:=[]) ⟨rfl,fun k hk=>by cases hk⟩
end Go.Ax
noncomputable section
namespace Go.Ax
open Go.RowKit Go.Proofs
set_option maxRecDepth 100000
def PowIn (w:World):Prop:=Lib.TabIs Tryz.prog w "internal/strconv.uint64pow10" .u64 Lib.pow10Tab
theorem PowIn.gr {w:World} (h:PowIn w):GR (GhW w) w gF:=by
 unfold PowIn Lib.TabIs World.var? at h
 rw [gPow6] at h
 simp only [Ai] at h
 split at h
 ·rename_i arr T fr ha
  injection h with h
  have hsz:arr.size=20:=by rw [h]; simp [Lib.pow10Tab_length]
  intro g cs hg
  unfold gF at hg
  cases hb:Nat.beq g 0 with
  | false=>rw [hb] at hg; cases hg
  | true =>
   have:g=0:=Nat.eq_of_beq_eq_true hb
   subst this
   rw [hb] at hg
   injection hg with hg; subst hg
   have hcell:∀ k,k < Us.length → w.cell? ⟨0,0 + k,none⟩=some (arr.getD k undef):=fun k hk=>by
    rw [Qr] at hk
    rw [Nat.zero_add,Kd ha,Array.getElem?_eq_getElem (by omega)]
    simp [Array.getD,show k < arr.size by omega]
   refine ⟨.ep Us 0 0 (fun k=>arr.getD k undef) (fun k hk=>⟨⟨World.block_lt_of_cell? w _ (hcell k hk),_,hcell k hk⟩,hcell k hk⟩) (fun x hx=>?_) (fun k hk=>?_),fun _=>⟨arr,T,fr,ha,by rw [hsz,Qr]⟩⟩
   ·unfold Us at hx
    obtain ⟨z,_,rfl⟩:=List.mem_map.1 hx
    rfl
   ·have hk2:=hk
    rw [Qr] at hk2
    have e:arr.getD k undef=.int .u64 (Lib.pow10Tab[k]'(by rw [Lib.pow10Tab_length]; omega)):=by
     rw [h]
     simp [Array.getD,Lib.pow10Tab_length,hk2]
    have e3:Us[k]=.v (.int .u64 (Lib.pow10Tab[k]'(by rw [Lib.pow10Tab_length]; omega))):=by simp [Us]
    rw [e]
    have key:∀ a:AV,a=.v (.int .u64 (Lib.pow10Tab[k]'(by rw [Lib.pow10Tab_length]; omega))) → VR (GhW w) w a (.int .u64 (Lib.pow10Tab[k]'(by rw [Lib.pow10Tab_length]; omega))):=fun a h=>h ▸ .v _ rfl
    exact key _ e3
 ·cases h
theorem g7_of {w:World} (h1:RngIn w) (h2:PowIn w):GR (GhW w) w G7:=by
 intro g cs hg
 have hg':=hg
 unfold G7 at hg
 cases hb:Nat.beq g 0 with
 | true =>
  have:g=0:=Nat.eq_of_beq_eq_true hb
  subst this
  exact h2.gr 0 cs hg'
 | false =>
  rw [hb] at hg
  exact h1.gr g cs hg
theorem u9b:Tryz.prog.underlying 9=some .string:=by kernel_rfl
end Go.Ax
noncomputable section
namespace Go.Ax
open Go.RowKit Go.Proofs Go.WideShapes Go.ChangeShapes Go.Deep
set_option maxRecDepth 100000
noncomputable def fsOf (P:Program) (t:TypeId):Array Field:=match P.underlying t with
 | some (.struct fs)=>fs
 | _=>#[]
theorem isStr24:(match Tryz.prog.underlying 24 with | some (.struct _)=>true | _=>false)=true:=by kernel_rfl
theorem u24s:Tryz.prog.underlying 24=some (.struct (fsOf Tryz.prog 24)):=by
 have h:=isStr24
 unfold fsOf
 split at h
 ·rename_i fs hu; rw [hu]
 ·cases h
theorem fs24_size:(fsOf Tryz.prog 24).size=6:=by kernel_rfl
theorem fs24:(fsOf Tryz.prog 24).toList.map (fun f=>(f.type,f.offset))=[(3,0),(3,1),(2,2),(9,3),(4,4),(22,5)]:=by kernel_rfl
theorem fs24_get (i:Nat) (t o:Nat) (h:[(3,0),(3,1),(2,2),(9,3),(4,4),(22,5)][i]? = some (t,o)):∃ f:Field,(fsOf Tryz.prog 24)[i]? = some f ∧ f.type=t ∧ f.offset=o:=by
 rw [← fs24,List.getElem?_map] at h
 cases hf:(fsOf Tryz.prog 24).toList[i]? with
 | none=>rw [hf] at h; cases h
 | some f =>
  rw [hf] at h
  injection h with h
  injection h with h1 h2
  exact ⟨f,by simpa using hf,h1,h2⟩
theorem cz24:Tryz.prog.cellsOf 24=6:=by kernel_rfl
theorem cz3:Tryz.prog.cellsOf 3=1:=by kernel_rfl
theorem cz2:Tryz.prog.cellsOf 2=1:=by kernel_rfl
theorem cz9:Tryz.prog.cellsOf 9=1:=by kernel_rfl
theorem cz4:Tryz.prog.cellsOf 4=1:=by kernel_rfl
theorem cz22:Tryz.prog.cellsOf 22=1:=by kernel_rfl
theorem uz3:Tryz.prog.underlying 3=some (.int .i64):=by kernel_rfl
theorem uz2:Tryz.prog.underlying 2=some (.int .i64):=by kernel_rfl
theorem uz9:Tryz.prog.underlying 9=some .string:=by kernel_rfl
theorem uz4:Tryz.prog.underlying 4=some .bool:=by kernel_rfl
section
variable {H:Type} {enc:TypeId × Value → H} {w:World}
theorem trod_sixZ {fuel:Nat} {cs:List Value} {x:DataW H × List MemPlace} (h:DataW.trod enc Tryz.prog w 0 (fun _=>true) true fuel 24 cs=some x) :
  ∃ (k a n:Int) (nm:ByteArray) (off:Bool) (c5:Value) (m:Nat) (y:DataW H × List MemPlace),cs=[.int .i64 k,.int .i64 a,.int .i64 n,.string nm,.bool off,c5] ∧ (-9223372036854775808 ≤ n ∧ n ≤ 9223372036854775807) ∧ fuel=m + 1 ∧ DataW.trod enc Tryz.prog w 0 (fun _=>true) true m 22 [c5]=some y:=by
 obtain ⟨xs,n,hfu,_,hlen,hx,hg⟩:=DataW.trod_struct u24s h
 rw [cz24] at hlen
 have hx6:xs.length=6:=hx.trans fs24_size
 obtain ⟨c0,c1,c2,c3,c4,c5,rfl⟩:∃ c0 c1 c2 c3 c4 c5,cs=[c0,c1,c2,c3,c4,c5]:=by
  match cs,hlen with
  | [c0,c1,c2,c3,c4,c5],_=>exact ⟨_,_,_,_,_,_,rfl⟩
 have key:∀ (i t o:Nat),[(3,0),(3,1),(2,2),(9,3),(4,4),(22,5)][i]? = some (t,o) → DataW.trod enc Tryz.prog w 0 (fun _=>true) true n t (([c0,c1,c2,c3,c4,c5].drop o).take (Tryz.prog.cellsOf t))=xs[i]?:=fun i t o hi=>by
  obtain ⟨f,h1,h2,h3⟩:=fs24_get i t o hi
  rw [← h2,← h3]; exact hg i f h1
 have g0:=key 0 3 0 rfl
 have g1:=key 1 3 1 rfl
 have g2:=key 2 2 2 rfl
 have g3:=key 3 9 3 rfl
 have g4:=key 4 4 4 rfl
 have g5:=key 5 22 5 rfl
 rw [List.getElem?_eq_getElem (by omega)] at g0 g1 g2 g3 g4 g5
 rw [cz3] at g0 g1
 rw [cz2] at g2
 rw [cz9] at g3
 rw [cz4] at g4
 rw [cz22] at g5
 obtain ⟨k,h0,_⟩:=DataW.trod_int uz3 g0
 obtain ⟨a,h1,_⟩:=DataW.trod_int uz3 g1
 obtain ⟨z,h2,_,hz⟩:=DataW.trod_int uz2 g2
 obtain ⟨nm,h3,_⟩:=DataW.trod_string uz9 g3
 obtain ⟨off,h4,_⟩:=DataW.trod_bool uz4 g4
 simp at h0 h1 h2 h3 h4
 subst h0 h1 h2 h3 h4
 refine ⟨k,a,z,nm,off,c5,n,_,rfl,?_,hfu,g5⟩
 have e1:IntKind.i64.min=-9223372036854775808:=by decide
 have e2:IntKind.i64.max=9223372036854775807:=by decide
 simp [Lit.wf,e1,e2] at hz
 omega
theorem trod_rowZ {fuel:Nat} {c:Value} {x:DataW H × List MemPlace} (h:DataW.trod enc Tryz.prog w 0 (fun _=>true) true fuel 22 [c]=some x) :
  c=.slice none 0 0 ∨ ∃ (a:Addr) (len cap m:Nat),fuel=m + 1 ∧ c=.slice (some a) len cap ∧ len ≤ cap ∧ ∀ i,i < cap → ∃ cs' y,w.cells? 0 (a.add (i * 6)) 6=some cs' ∧ DataW.trod enc Tryz.prog w 0 (fun _=>true) true m 24 cs' = some y:=by
 rcases DataW.trod_slice oR h with ⟨h0,_⟩ | ⟨a,len,cap,elems,rest,n,hfu,hc,_,_,hl,_,hlen,hel,hsp,_⟩
 ·injection h0 with h0
  exact .inl h0
 ·injection hc with hc
  obtain ⟨hrl,hrest⟩:=hsp rfl
  rw [cz24] at hel hrest
  refine .inr ⟨a,len,cap,n,hfu,hc,hl,fun i hi=>?_⟩
  by_cases hil:i < len
  ·have:=hel i hil
   rw [List.getElem?_eq_getElem (by omega)] at this
   obtain ⟨cs',h1,h2⟩:=Option.bind_eq_some_iff.1 this
   exact ⟨cs',_,h1,h2⟩
  ·have:=hrest (i - len) (by omega)
   rw [show len + (i - len)=i by omega,List.getElem?_eq_getElem (by omega)] at this
   obtain ⟨cs',h1,h2⟩:=Option.bind_eq_some_iff.1 this
   exact ⟨cs',_,h1,h2⟩
end
def RawIn (W:World) (cs:List Value):Prop:=∃ ys,RawE (.agg ys) ∧ ∀ w1,Below W.heap.size W w1 → VRL (GhW w1) w1 ys cs
theorem jV (Y:Nat → List AV) (hY:∀ i,(Y i).length=6):∀ (n:Nat),(Ec ((List.range n).map fun i=>AV.agg (Y i))).length=n * 6 ∧ ∀ k,k < n * 6 → (Ec ((List.range n).map fun i=>AV.agg (Y i)))[k]? = (Y (k / 6))[k % 6]?
 | 0=>⟨rfl,fun k h=>absurd h (by omega)⟩
 | n + 1=>by
  obtain ⟨h1,h2⟩:=jV Y hY n
  have e:Ec ((List.range (n + 1)).map fun i=>AV.agg (Y i))=Ec ((List.range n).map fun i=>AV.agg (Y i)) ++ Y n:=by
   rw [List.range_succ,List.map_append]
   unfold Ec
   rw [List.flatMap_append]
   simp [AV.cells]
  rw [e]
  refine ⟨by rw [List.length_append,h1,hY]; omega,fun k hk=>?_⟩
  by_cases hkn:k < n * 6
  ·rw [List.getElem?_append_left (by omega)]; exact h2 k hkn
  ·rw [List.getElem?_append_right (by omega),h1]
   rw [show k / 6=n by omega,show k - n * 6=k % 6 by omega]
theorem yS {ys:List AV} (h:RawE (.agg ys)):∀ x ∈ ys,x.one=true:=by
 cases h with
 | mk k a n s b kv hn hk =>
  intro x hx
  simp only [L8,List.mem_cons,List.not_mem_nil,or_false] at hx
  rcases hx with rfl | rfl | rfl | rfl | rfl | rfl
  iterate 5 rfl
  cases hk <;> rfl
theorem cell_arr {W:World} {b o:Nat} {v:Value} (h:W.cell? ⟨b,o,none⟩=some v):∃ arr T fr,W.heap[b]? = some (Obj.cells arr T fr) ∧ o < arr.size:=by
 unfold World.cell? at h
 simp only at h
 split at h
 ·rename_i arr T fr ha
  simp only [Option.isSome_none,Am,Ab] at h
  exact ⟨arr,T,fr,ha,(Array.getElem?_eq_some_iff.1 h).1⟩
 ·cases h
theorem addZ (b o j:Nat):(⟨b,o,none⟩:Addr).add j=⟨b,o + j,none⟩:=by unfold Addr.add; split <;> simp_all
theorem raw_in {H:Type} {enc:TypeId × Value → H} {W:World}:∀ (N fuel:Nat),fuel < N → ∀ {cs:List Value} {x:DataW H × List MemPlace},DataW.trod enc Tryz.prog W 0 (fun _=>true) true fuel 24 cs=some x → RawIn W cs
 | 0,_,h,_,_,_=>absurd h (Nat.not_lt_zero _)
 | N + 1,fuel,hf,cs,x,h=>by
  obtain ⟨k,a,n,nm,off,c5,m,y,rfl,hn,hm,h5⟩:=trod_sixZ h
  have fin:∀ (kv:AV),RawK kv → (∀ w1,Below W.heap.size W w1 → VR (GhW w1) w1 kv c5) → RawIn W [.int .i64 k,.int .i64 a,.int .i64 n,.string nm,.bool off,c5]:=fun kv hk hv =>
   ⟨L8 k a n nm off kv,.mk _ _ _ _ _ _ hn hk,fun w1 hb=>VRL.cons (.v _ rfl) (VRL.cons (.v _ rfl) (VRL.cons (.v _ rfl) (VRL.cons (.v _ rfl) (VRL.cons (.v _ rfl) (VRL.cons (hv w1 hb) (VRL.nil _ _))))))⟩
  rcases trod_rowZ h5 with rfl | ⟨ad,len,cap,m2,hm2,rfl,hl,hi⟩
  ·exact fin .nils .nil (fun _ _=>.nils)
  ·by_cases hc0:cap=0
   ·subst hc0
    obtain rfl:len=0:=by omega
    exact fin _ (.emp ad) (fun _ _=>.v _ rfl)
   ·obtain ⟨cs0,y0,hcs0,ht0⟩:=hi 0 (by omega)
    obtain ⟨_,hl0,hat0⟩:=World.cells?_some hcs0
    obtain ⟨b,o,sp⟩:=ad
    have p0:=hat0 0 (by omega)
    rw [List.getElem?_eq_getElem (by omega)] at p0
    have hspot:sp=none:=by simpa [Addr.add] using World.cell?_spot p0
    subst hspot
    have kid:∀ i,i < cap → ∃ Y:List AV,RawE (.agg Y) ∧ ∃ cs',cs'.length=6 ∧ (∀ j,j < 6 → W.cell? ⟨b,o + (i * 6 + j),none⟩=cs'[j]?) ∧ ∀ w1,Below W.heap.size W w1 → VRL (GhW w1) w1 Y cs':=fun i hic=>by
     obtain ⟨cs',y',hcs,ht⟩:=hi i hic
     obtain ⟨_,hcl,hat⟩:=World.cells?_some hcs
     obtain ⟨Y,h1,h2⟩:=raw_in N m2 (by omega) ht
     refine ⟨Y,h1,cs',hcl,fun j hj=>?_,h2⟩
     rw [← hat j hj,addZ,addZ,Nat.add_assoc]
    obtain ⟨Y,hY⟩:=choose_lt kid
    have hY6:∀ i,((fun i=>if i < cap then Y i else L8 0 0 0 ⟨#[]⟩ false .nils) i).length=6:=fun i=>by
     simp only
     split
     ·rename_i h; exact Lm (hY i h).1
     ·rfl
    generalize hZ:(fun i=>if i < cap then Y i else L8 0 0 0 ⟨#[]⟩ false .nils)=Z at hY6
    have hZi:∀ i,i < cap → Z i=Y i:=fun i h=>by rw [← hZ]; simp only; rw [if_pos h]
    obtain ⟨f1,f2⟩:=jV Z hY6 len
    refine fin (.sl 0 0 6 ((List.range len).map fun i=>.agg (Z i))) (.row _ _ _ (fun e he=>?_)) (fun w1 hb=>?_)
    ·obtain ⟨i,hir,rfl⟩:=List.mem_map.1 he
     have hic:i < cap:=by have:=List.mem_range.1 hir; omega
     rw [hZi i hic]; exact (hY i hic).1
    ·have hcell:∀ i j,i < cap → j < 6 → ∃ v,W.cell? ⟨b,o + (i * 6 + j),none⟩=some v ∧ ∃ h:j < (Z i).length,VR (GhW w1) w1 (Z i)[j] v:=fun i j hic hj=>by
      obtain ⟨h1,cs',h2,h3,h4⟩:=hY i hic
      obtain ⟨h5,h6⟩:=h4 w1 hb
      refine ⟨cs'[j]'(by omega),by rw [h3 j hj]; exact List.getElem?_eq_getElem _,by rw [hY6]; exact hj,?_⟩
      have:=h6 j (by rw [Lm h1]; exact hj) (by omega)
      simp only [hZi i hic]
      exact this
     obtain ⟨vl,hvl,_⟩:=hcell (cap - 1) 5 (by omega) (by omega)
     obtain ⟨arr,T,fr,ha,hlt⟩:=cell_arr hvl
     have hbl:b < W.heap.size:=(Array.getElem?_eq_some_iff.1 ha).1
     have hk1:w1.heap[b]? = W.heap[b]?:=hb.block b hbl
     have hmain:VR (GhW w1) w1 (.sl 0 0 6 ((List.range len).map fun i=>.agg (Z i))) (.slice (some ⟨b,o,none⟩) ((List.range len).map fun i=>AV.agg (Z i)).length cap):=by
      refine .sl 0 0 6 _ b o cap (fun k=>((w1.cell? ⟨b,o + k,none⟩).getD undef)) (by omega) (fun e he=>?_) (fun x hx=>?_) (fun k hk=>?_) (fun k hk=>?_) (fun h=>absurd h (by omega)) (fun h=>absurd h (by omega)) (by simpa using hl) ⟨arr,T,fr,by rw [hk1]; exact ha,by omega⟩
      ·obtain ⟨i,_,rfl⟩:=List.mem_map.1 he; exact hY6 i
      ·unfold Ec at hx
       obtain ⟨e,he,hx⟩:=List.mem_flatMap.1 hx
       obtain ⟨i,hir,rfl⟩:=List.mem_map.1 he
       have hic:i < cap:=by have:=List.mem_range.1 hir; omega
       have hx:x ∈ Z i:=hx
       rw [hZi i hic] at hx
       exact yS (hY i hic).1 x hx
      ·rw [f1] at hk
       obtain ⟨v,hv,_⟩:=hcell (k / 6) (k % 6) (by omega) (by omega)
       rw [show o + (k / 6 * 6 + k % 6)=o + k by omega] at hv
       have hv1:w1.cell? ⟨b,o + k,none⟩=some v:=(hb.cell (p:=⟨b,o + k,none⟩) hbl).trans hv
       simp only [hv1,Ae]
       exact ⟨⟨Nat.lt_of_lt_of_le hbl hb.size,v,hv1⟩,trivial⟩
      ·have hk':=hk
       rw [f1] at hk
       obtain ⟨v,hv,hlen,hvr⟩:=hcell (k / 6) (k % 6) (by omega) (by omega)
       rw [show o + (k / 6 * 6 + k % 6)=o + k by omega] at hv
       have hv1:w1.cell? ⟨b,o + k,none⟩=some v:=(hb.cell (p:=⟨b,o + k,none⟩) hbl).trans hv
       have e1:=f2 k hk
       rw [List.getElem?_eq_getElem hk',List.getElem?_eq_getElem hlen] at e1
       injection e1 with e1
       simp only [hv1,Ae]
       rw [e1]; exact hvr
     simpa using hmain
end Go.Ax
noncomputable section
namespace Go.Ax
open Go.RowKit Go.Proofs
set_option maxRecDepth 100000
theorem pbk_any (k a n:Int) (nm:ByteArray) (off:Bool) (c5:Value) (w:World) (hraw:RawIn w [.int .i64 k,.int .i64 a,.int .i64 n,.string nm,.bool off,c5]) (hr:RngIn w) (hp:PowIn w):Calls Tryz.prog 3 #[.agg #[.int .i64 k,.int .i64 a,.int .i64 n,.string nm,.bool off,c5]] w fun x w'=>x=.returned (.bool true) ∧ Below w.heap.size w w':=by
 have HG:=Lib.hid (g7_of hr hp); clear hr hp
 have HR:=Lib.hid hraw; clear hraw
 go_enter Tryz.func3,Tryz.ntmps3
 refine wp_seq_k fun K0 h0=>?_
 have H0:=Lib.hid h0; clear h0
 go_wp2_with fail
 refine H0.out _ _ ?_
 clear H0 K0
 refine wp_seq_k fun K1 h1=>?_
 have H1:=Lib.hid h1; clear h1
 go_wp2_with fail
 refine (pY _).mono ?_
 rintro x w1 ⟨rfl,hb1⟩
 go_wp2_with fail
 refine H1.out _ _ ?_
 clear H1 K1
 obtain ⟨ys,hR,hV⟩:=HR.out
 have b0:Below w.heap.size w (w.alloc (Obj.cells #[.int .i64 k,.int .i64 a,.int .i64 n,.string nm,.bool off,c5] 24)):=(Below.refl _ _).alloc (Nat.le_refl _) _
 generalize hwa:w.alloc (Obj.cells #[.int .i64 k,.int .i64 a,.int .i64 n,.string nm,.bool off,c5] 24)=wa at hb1 b0
 have hsa:wa.heap.size=w.heap.size + 1:=by rw [← hwa]; show (w.heap.push _).size=_; simp
 have hcell:∀ j,w1.cell? ⟨w.heap.size,0 + j,none⟩=#[Value.int .i64 k,.int .i64 a,.int .i64 n,.string nm,.bool off,c5][j]?:=fun j=>by
  rw [hb1.cell (p:=⟨w.heap.size,0 + j,none⟩) (by show w.heap.size < wa.heap.size; omega),Nat.zero_add,← hwa]
  exact World.cell?_alloc_new w _ 24 j
 have hb:Below w.heap.size w w1:=b0.trans (hb1.mono (by omega))
 have hlt:w.heap.size < w1.heap.size:=by have:=hb1.size; omega
 obtain ⟨hl,hv⟩:=hV w1 hb
 have hep:VR (GhW w1) w1 (.ep ys) (.pointer (some ⟨w.heap.size,0,none⟩)):=by
  have hyl:=Lm hR
  refine .ep ys w.heap.size 0 (fun j=>[Value.int .i64 k,.int .i64 a,.int .i64 n,.string nm,.bool off,c5].getD j undef) (fun j hj=>?_) (yS hR) (fun j hj=>?_)
  ·have e:w1.cell? ⟨w.heap.size,0 + j,none⟩=some ([Value.int .i64 k,.int .i64 a,.int .i64 n,.string nm,.bool off,c5].getD j undef):=by
    rw [hcell j]
    have h6:j < 6:=by omega
    match j,h6 with
    | 0,_=>rfl
    | 1,_=>rfl
    | 2,_=>rfl
    | 3,_=>rfl
    | 4,_=>rfl
    | 5,_=>rfl
   exact ⟨⟨hlt,_,e⟩,e⟩
  ·have h2:j < [Value.int .i64 k,.int .i64 a,.int .i64 n,.string nm,.bool off,c5].length:=by rw [hl]; exact hj
   have:=hv j hj h2
   rw [List.getD_eq_getElem?_getD,List.getElem?_eq_getElem h2]
   exact this
 have hg:GR (GhW w1) w1 G7:=HG.out.mono (Tm hb)
 have hW:=pbk_rest hR St0 (Nat.le_refl _) (T.leaf.set 1 (some (.ep ys))) (by rw [T.get_set,if_pos rfl])
 refine codeWG (c:=mJ) (E:=E8) e8_ok e8_intr e8_mix (t:=2) hW (SR.whole w1) hg ?_ rfl rfl ?_
 ·intro t a h
  rw [T.get_set] at h
  split at h
  ·rename_i e; subst e
   injection h with h; subst h
   exact ⟨(show 1 < 36 by decide),hep⟩
  ·cases h
 intro act' w' hsz hd ht hb2
 refine ⟨hd,.bool true,?_,rfl,hb.trans (hb2.mono (by omega))⟩
 have h4:act'.tmps.getD 2 undef=.bool true:=by simp [Array.getD_eq_getD_getElem?,ht]
 simp [results,Tryz.f3,h4,go_sem,ht]
end Go.Ax
