/- Bx -/
import Derived.Test.YtjgknelmjdallaaGreatDoorBkBw
import Derived.Test.YtjgknelmjdallaaGreatDoorBkG23
set_option linter.unusedVariables false
set_option linter.unusedSimpArgs false
noncomputable section
namespace Go.Ax
open Go.RowKit Go.Proofs
set_option maxRecDepth 100000
theorem ix9 (b:UInt8) (l:List UInt8):Ke Tryz.prog 9 (.v (.string ⟨⟨b :: l⟩⟩)) (.v (.int .i64 0))=some (.v (.int .u8 (b.toNat:Int))):=by
 have u9:Tryz.prog.underlying 9=some .string:=by kernel_rfl
 simp [Ke,u9]
theorem mR (a b:AV):Hs Tryz.prog 5 a b=false:=Le a b
theorem fa24l (a b c d e f:AV):C9 Tryz.prog 24 (.ep [a,b,c,d,e,f]) 0=some (.ep [a,b,c,d,e,f]):=by kernel_rfl
theorem fa24e (ys:List AV) (h:ys.length=6):C9 Tryz.prog 24 (.ep ys) 0=some (.ep ys):=by
 match ys,h with
 | [a,b,c,d,e,f],_=>exact fa24l a b c d e f
theorem ep_kind {ys:List AV} {x:PE} (h:RepE (.agg ys) x) (S:St):C3 Tryz.prog S 3 (.ep ys)=some (.v (.int .i64 (I4 x:Int))):=by
 cases h with
 | mk kind pos n name off kv kids h2=>exact Jz S _ _
theorem nB (l:List PE):Kj (De l)=Jp l:=by
 unfold Kj Jp
 rw [Uh,List.map_map]
 rfl
set_option maxHeartbeats 16000000 in
theorem ref_k11 {pos:Nat} {n:Int} {name:List UInt8} {off:Bool} {kv:AV} {x:PE} (hx:RefK x) (hk:RepK kv [x]) (hnm:name.length ≤ 30) (S:St) (hn2:2 ≤ S.next):WC E8 14 [.agg (exC 11 pos n name off kv)] S (fun r=>∃ S',r=.ret (Bp (Dz (.mk 11 pos n name off [x]))) S' ∧ Eg S S'):=by
 refine Dx Tryz.f14 (by kernel_rfl) (by kernel_rfl) (by kernel_rfl) (show (_:Nat) ≤ _ from by show (_:Nat) ≤ _; simp [Tryz.f14]) ?_
 obtain ⟨fn14,hf14⟩:=Lg
 obtain ⟨fn40,hf40⟩:=Lz
 obtain ⟨fn41,hf41⟩:=Mr
 obtain ⟨fn42,hf42⟩:=Ly
 obtain ⟨fn43,hf43⟩:=Mq
 have rf:=(RepE.mk 11 pos n name off kv _ hk).refl
 have rk:=hk.refl
 obtain ⟨tok,tof,y0,rfl,r0,z0⟩:=yK hk
 have w0:=r0.refl
 have v0:=Hq r0
 have p0:=fun S=>J5 S z0
 have g1:=Db S (exC 11 pos n name off (.sl tok tof 6 [.agg y0]))
 have k1:=C4 S (exC 11 pos n name off (.sl tok tof 6 [.agg y0]))
 have lt1:S.next < (S.newBox (exC 11 pos n name off (.sl tok tof 6 [.agg y0]))).next:=Nat.lt_succ_self _
 generalize hS1:S.newBox (exC 11 pos n name off (.sl tok tof 6 [.agg y0]))=S1 at g1 k1 lt1
 have n1:2 ≤ S1.next:=Nat.le_trans hn2 k1.1
 have e1:(((11:Nat):Int) == 1)=false:=rfl
 have e2:(((11:Nat):Int) == 2)=false:=rfl
 have e3:(((11:Nat):Int) == 3)=false:=rfl
 have e4:(((11:Nat):Int) == 4)=false:=rfl
 have e5:(((11:Nat):Int) == 5)=false:=rfl
 have e6:(((11:Nat):Int) == 6)=false:=rfl
 have e7:(((11:Nat):Int) == 7)=false:=rfl
 have e8:(((11:Nat):Int) == 8)=false:=rfl
 have e9:(((11:Nat):Int) == 9)=false:=rfl
 have e10:(((11:Nat):Int) == 10)=false:=rfl
 have e11:(((11:Nat):Int) == 11)=true:=rfl
 have t0:=hx.len
 have tk0_a:=Ki hx 9
 have a1:=Kf g1
 have b1:=E3 g1
 have c1:=Ga g1
 have d1:=Jn g1
 have u1:=lxN g1
 have l1:=I3 g1 rfl
 have bep0:Gr (.ep y0) (.ep y0)=true:=v0
 cases off with
 | false =>
  have q0:=C5 (kTe x 9) ([32,119,104,101,110,32]) (by first | omega | (simp only [List.length_append,List.length_cons,List.length_nil]; omega))
  have q1:=C5 ((kTe x 9) ++ [32,119,104,101,110,32]) (name) (by first | omega | (simp only [List.length_append,List.length_cons,List.length_nil]; omega))
  simp only [Br,A6,Ch,Bl,Bq,Bt,Bw,A4,B0,Bs,Bz,Bh,A7,Bj,Bi,Ci,Cg,A5,Bc,Ba,Cc,A0,A1,Bo,B5,ofOpt,Bb,Bv,Bg,By,Bf,Cl,B7,Nat.reduceLT,Nat.reduceEqDiff,Aa,Ab,Ac,Ae,Aj,Ak,Am,D6,Dq,Tryz.f14,hS1,Cd,Ce,Eh,E4,Fd,Js,Gf,Ht,e1,e2,e3,e4,e5,e6,e7,e8,e9,e10,e11,a1,b1,c1,d1,u1,l1]
  refine G4 [(0,true),(1,true),(2,true),(3,true),(6,true),(7,true),(4,true),(7,false),(5,true),(8,true),(9,true)] (by kernel_rfl) (by kernel_rfl) ?_
  simp only [A5,Bc,Ba,A0,A1,Bo,B5,ofOpt,Bb,Nat.reduceLT,Nat.reduceEqDiff,Aa,Ab,Ac,Af,Ag,Ah,Aj,Ak,Am,D6,Fd,Gf,Ht,a1,b1,hf41,p0,Dj,C0,Df,Cn,Gu]
  refine WC.mono (Lf hx r0 9 S1 n1) ?_
  rintro _ ⟨S2,rfl,k2⟩
  have g2:S2.mem.get S.next=some (.box (exC 11 pos n name false (.sl tok tof 6 [.agg y0]))):=(k2.2 _ lt1).trans g1
  have a2:=Kf g2
  have b2:=E3 g2
  have c2:=Ga g2
  have d2:=Jn g2
  have u2:=lxN g2
  have l2:=I3 g2 rfl
  simp only [Bp]
  simp only [Bw,A4,B0,Bz,A5,Bc,Ba,A0,A1,ofOpt,Bb,Bg,By,Bf,Cl,Nat.reduceLT,Nat.reduceEqDiff,Aa,Ab,Ac,Am,D6,Cy,b2,q0,q1,Ew,Dj,Gn,C0,Cn,Du,D9,Dy,Ed,G3]
  exact ⟨_,by rw [show Dz (.mk 11 pos n name false [x])=(kTe x 9 ++ [32,119,104,101,110,32]) ++ name by show kT (De [x]) 0 9 ++ Oy name false=_; unfold Oy; rw [List.append_assoc]; rfl],k1.trans k2⟩
 | true =>
  have q0:=C5 (kTe x 9) ([32,119,104,101,110,32,110,111,116,32]) (by first | omega | (simp only [List.length_append,List.length_cons,List.length_nil]; omega))
  have q1:=C5 ((kTe x 9) ++ [32,119,104,101,110,32,110,111,116,32]) (name) (by first | omega | (simp only [List.length_append,List.length_cons,List.length_nil]; omega))
  simp only [Br,A6,Ch,Bl,Bq,Bt,Bw,A4,B0,Bs,Bz,Bh,A7,Bj,Bi,Ci,Cg,A5,Bc,Ba,Cc,A0,A1,Bo,B5,ofOpt,Bb,Bv,Bg,By,Bf,Cl,B7,Nat.reduceLT,Nat.reduceEqDiff,Aa,Ab,Ac,Ae,Aj,Ak,Am,D6,Dq,Tryz.f14,hS1,Cd,Ce,Eh,E4,Fd,Js,Gf,Ht,e1,e2,e3,e4,e5,e6,e7,e8,e9,e10,e11,a1,b1,c1,d1,u1,l1]
  refine G4 [(0,true),(1,true),(2,true),(3,true),(6,true),(7,true),(4,true),(7,false),(5,true),(8,true),(9,true)] (by kernel_rfl) (by kernel_rfl) ?_
  simp only [A5,Bc,Ba,A0,A1,Bo,B5,ofOpt,Bb,Nat.reduceLT,Nat.reduceEqDiff,Aa,Ab,Ac,Af,Ag,Ah,Aj,Ak,Am,D6,Fd,Gf,Ht,a1,b1,hf41,p0,Dj,C0,Df,Cn,Gu]
  refine WC.mono (Lf hx r0 9 S1 n1) ?_
  rintro _ ⟨S2,rfl,k2⟩
  have g2:S2.mem.get S.next=some (.box (exC 11 pos n name true (.sl tok tof 6 [.agg y0]))):=(k2.2 _ lt1).trans g1
  have a2:=Kf g2
  have b2:=E3 g2
  have c2:=Ga g2
  have d2:=Jn g2
  have u2:=lxN g2
  have l2:=I3 g2 rfl
  simp only [Bp]
  simp only [Bw,A4,B0,Bz,A5,Bc,Ba,A0,A1,ofOpt,Bb,Bg,By,Bf,Cl,Nat.reduceLT,Nat.reduceEqDiff,Aa,Ab,Ac,Am,D6,Cy,b2,q0,q1,Ew,Dj,Gn,C0,Cn,Du,D9,Dy,Ed,G3]
  exact ⟨_,by rw [show Dz (.mk 11 pos n name true [x])=(kTe x 9 ++ [32,119,104,101,110,32,110,111,116,32]) ++ name by show kT (De [x]) 0 9 ++ Oy name true=_; unfold Oy; rw [List.append_assoc]; rfl],k1.trans k2⟩
set_option maxHeartbeats 16000000 in
theorem ref_k13 {pos:Nat} {n:Int} {name:List UInt8} {off:Bool} {kv:AV} {l:List PE} (hl:∀ e ∈ l,RefK e) (hj:∀ i,(Jp (l.take i)).length ≤ 1000000000) (hll:l.length ≤ 1000) (hk:RepK kv l) (hnm:name.length ≤ 30) (S:St) (hn2:2 ≤ S.next):WC E8 14 [.agg (exC 13 pos n name off kv)] S (fun r=>∃ S',r=.ret (Bp (Dz (.mk 13 pos n name off l))) S' ∧ Eg S S'):=by
 refine Dx Tryz.f14 (by kernel_rfl) (by kernel_rfl) (by kernel_rfl) (show (_:Nat) ≤ _ from by show (_:Nat) ≤ _; simp [Tryz.f14]) ?_
 obtain ⟨fn14,hf14⟩:=Lg
 obtain ⟨fn40,hf40⟩:=Lz
 obtain ⟨fn41,hf41⟩:=Mr
 obtain ⟨fn42,hf42⟩:=Ly
 obtain ⟨fn43,hf43⟩:=Mq
 have rf:=(RepE.mk 13 pos n name off kv _ hk).refl
 have rk:=hk.refl
 have g1:=Db S (exC 13 pos n name off kv)
 have k1:=C4 S (exC 13 pos n name off kv)
 have lt1:S.next < (S.newBox (exC 13 pos n name off kv)).next:=Nat.lt_succ_self _
 generalize hS1:S.newBox (exC 13 pos n name off kv)=S1 at g1 k1 lt1
 have n1:2 ≤ S1.next:=Nat.le_trans hn2 k1.1
 have hjl:(Jp l).length ≤ 1000000000:=by have:=hj l.length; rwa [List.take_of_length_le (Nat.le_refl _)] at this
 have e1:(((13:Nat):Int) == 1)=false:=rfl
 have e2:(((13:Nat):Int) == 2)=false:=rfl
 have e3:(((13:Nat):Int) == 3)=false:=rfl
 have e4:(((13:Nat):Int) == 4)=false:=rfl
 have e5:(((13:Nat):Int) == 5)=false:=rfl
 have e6:(((13:Nat):Int) == 6)=false:=rfl
 have e7:(((13:Nat):Int) == 7)=false:=rfl
 have e8:(((13:Nat):Int) == 8)=false:=rfl
 have e9:(((13:Nat):Int) == 9)=false:=rfl
 have e10:(((13:Nat):Int) == 10)=false:=rfl
 have e11:(((13:Nat):Int) == 11)=false:=rfl
 have e12:(((13:Nat):Int) == 12)=false:=rfl
 have e13:(((13:Nat):Int) == 13)=true:=rfl
 have q0:=C5 (name) ([40]) (by first | omega | (simp only [List.length_append,List.length_cons,List.length_nil]; omega))
 have q1:=C5 ((name) ++ [40]) (Jp l) (by first | omega | (simp only [List.length_append,List.length_cons,List.length_nil]; omega))
 have q2:=C5 (((name) ++ [40]) ++ Jp l) ([41]) (by first | omega | (simp only [List.length_append,List.length_cons,List.length_nil]; omega))
 have a1:=Kf g1
 have b1:=E3 g1
 have c1:=Ga g1
 have d1:=Jn g1
 have u1:=lxN g1
 have l1:=I3 g1 rfl
 simp only [Br,A6,Ch,Bl,Bq,Bt,Bw,A4,B0,Bs,Bz,Bh,A7,Bj,Bi,Ci,Cg,A5,Bc,Ba,Cc,A0,A1,Bo,B5,ofOpt,Bb,Bv,Bg,By,Bf,Cl,B7,Nat.reduceLT,Nat.reduceEqDiff,Aa,Ab,Ac,Ae,Aj,Ak,Am,D6,Dq,Tryz.f14,hS1,Cd,Ce,Eh,E4,Fd,Js,Gf,e1,e2,e3,e4,e5,e6,e7,e8,e9,e10,e11,e12,e13,a1,b1,c1,d1,u1,l1]
 refine G4 [(0,true),(1,true),(2,true),(3,true),(4,true),(5,true),(1,false),(6,true),(7,true),(8,true)] (by kernel_rfl) (by kernel_rfl) ?_
 simp only [A5,Bc,Ba,A0,A1,Bo,B5,ofOpt,Bb,Nat.reduceLT,Nat.reduceEqDiff,Aa,Ab,Ac,Af,Ag,Ah,Aj,Ak,Am,D6,Cy,Fd,Gf,a1,b1,q0,hf43,Dj,C0,Df,Cn,Gu]
 refine WC.mono (row2_w hk hl hj hll S1 n1) ?_
 rintro _ ⟨S2,rfl,k2⟩
 have g2:S2.mem.get S.next=some (.box (exC 13 pos n name off kv)):=(k2.2 _ lt1).trans g1
 have a2:=Kf g2
 have b2:=E3 g2
 have c2:=Ga g2
 have d2:=Jn g2
 have u2:=lxN g2
 have l2:=I3 g2 rfl
 simp only [Bp]
 simp only [Bw,A4,B0,Bz,A5,Bc,Ba,A0,A1,ofOpt,Bb,Bg,By,Bf,Cl,Nat.reduceLT,Nat.reduceEqDiff,Aa,Ab,Ac,Am,D6,Cy,b2,q1,q2,Ew,Dj,Gn,C0,Cn,Du,D9,Dy,Ed,G3]
 exact ⟨_,by rw [show Dz (.mk 13 pos n name off l)=((name ++ [40]) ++ Jp l) ++ [41] by rw [← nB]; rfl],k1.trans k2⟩
set_option maxHeartbeats 16000000 in
theorem ref_k14 {pos:Nat} {n:Int} {name:List UInt8} {off:Bool} {kv:AV} {l:List PE} (hl:∀ e ∈ l,RefK e) (hj:∀ i,(Jp (l.take i)).length ≤ 1000000000) (hll:l.length ≤ 1000) (hk:RepK kv l) (hnm:name.length ≤ 30) (S:St) (hn2:2 ≤ S.next):WC E8 14 [.agg (exC 14 pos n name off kv)] S (fun r=>∃ S',r=.ret (Bp (Dz (.mk 14 pos n name off l))) S' ∧ Eg S S'):=by
 refine Dx Tryz.f14 (by kernel_rfl) (by kernel_rfl) (by kernel_rfl) (show (_:Nat) ≤ _ from by show (_:Nat) ≤ _; simp [Tryz.f14]) ?_
 obtain ⟨fn14,hf14⟩:=Lg
 obtain ⟨fn40,hf40⟩:=Lz
 obtain ⟨fn41,hf41⟩:=Mr
 obtain ⟨fn42,hf42⟩:=Ly
 obtain ⟨fn43,hf43⟩:=Mq
 have rf:=(RepE.mk 14 pos n name off kv _ hk).refl
 have rk:=hk.refl
 have g1:=Db S (exC 14 pos n name off kv)
 have k1:=C4 S (exC 14 pos n name off kv)
 have lt1:S.next < (S.newBox (exC 14 pos n name off kv)).next:=Nat.lt_succ_self _
 generalize hS1:S.newBox (exC 14 pos n name off kv)=S1 at g1 k1 lt1
 have n1:2 ≤ S1.next:=Nat.le_trans hn2 k1.1
 have hjl:(Jp l).length ≤ 1000000000:=by have:=hj l.length; rwa [List.take_of_length_le (Nat.le_refl _)] at this
 have e1:(((14:Nat):Int) == 1)=false:=rfl
 have e2:(((14:Nat):Int) == 2)=false:=rfl
 have e3:(((14:Nat):Int) == 3)=false:=rfl
 have e4:(((14:Nat):Int) == 4)=false:=rfl
 have e5:(((14:Nat):Int) == 5)=false:=rfl
 have e6:(((14:Nat):Int) == 6)=false:=rfl
 have e7:(((14:Nat):Int) == 7)=false:=rfl
 have e8:(((14:Nat):Int) == 8)=false:=rfl
 have e9:(((14:Nat):Int) == 9)=false:=rfl
 have e10:(((14:Nat):Int) == 10)=false:=rfl
 have e11:(((14:Nat):Int) == 11)=false:=rfl
 have e12:(((14:Nat):Int) == 12)=false:=rfl
 have e13:(((14:Nat):Int) == 13)=false:=rfl
 have e14:(((14:Nat):Int) == 14)=true:=rfl
 have a1:=Kf g1
 have b1:=E3 g1
 have c1:=Ga g1
 have d1:=Jn g1
 have u1:=lxN g1
 have l1:=I3 g1 rfl
 have hln:=fun S=>len22 S hk
 by_cases h0:l=[]
 ·have el:(((l.length:Nat):Int) == 0)=true:=by subst h0; rfl
  have q0:=C5 ([97,119,97,105,116,32]) (name) (by first | omega | (simp only [List.length_append,List.length_cons,List.length_nil]; omega))
  simp only [Br,A6,Ch,Bl,Bq,Bt,Bw,A4,B0,Bs,Bz,Bh,A7,Bj,Bi,Ci,Cg,A5,Bc,Ba,Cc,A0,A1,Bo,B5,ofOpt,Bb,Bv,Bg,By,Bf,Cl,B7,Nat.reduceLT,Nat.reduceEqDiff,Aa,Ab,Ac,Ae,Aj,Ak,Am,D6,Cy,Dq,Tryz.f14,hS1,Cd,Ce,Eh,E4,Fd,Js,Gf,e1,e2,e3,e4,e5,e6,e7,e8,e9,e10,e11,e12,e13,a1,b1,c1,d1,u1,l1,q0,el,hln]
  exact ⟨_,by rw [show Dz (.mk 14 pos n name off l)=[97,119,97,105,116,32] ++ name by subst h0; rfl]; rfl,k1⟩
 ·have hp:0 < l.length:=by
   cases l with
   | nil=>exact absurd rfl h0
   | cons a r=>simp
  have el:(((l.length:Nat):Int) == 0)=false:=by rw [beq_eq_false_iff_ne]; omega
  have q0:=C5 ([97,119,97,105,116,32]) (name) (by first | omega | (simp only [List.length_append,List.length_cons,List.length_nil]; omega))
  have q1:=C5 (([97,119,97,105,116,32]) ++ name) ([32,97,102,116,101,114,32,40]) (by first | omega | (simp only [List.length_append,List.length_cons,List.length_nil]; omega))
  have q2:=C5 ((([97,119,97,105,116,32]) ++ name) ++ [32,97,102,116,101,114,32,40]) (Jp l) (by first | omega | (simp only [List.length_append,List.length_cons,List.length_nil]; omega))
  have q3:=C5 (((([97,119,97,105,116,32]) ++ name) ++ [32,97,102,116,101,114,32,40]) ++ Jp l) ([41]) (by first | omega | (simp only [List.length_append,List.length_cons,List.length_nil]; omega))
  simp only [Br,A6,Ch,Bl,Bq,Bt,Bw,A4,B0,Bs,Bz,Bh,A7,Bj,Bi,Cg,A5,Bc,Ba,Cc,A0,A1,Bo,B5,ofOpt,Bb,Bv,Bg,By,Bf,Cl,B7,Nat.reduceLT,Nat.reduceEqDiff,Aa,Ab,Ac,Ae,Aj,Ak,Am,D6,Hx,Cy,Dq,Tryz.f14,hS1,Cd,Ce,Eh,E4,Fd,Js,Gf,e1,e2,e3,e4,e5,e6,e7,e8,e9,e10,e11,e12,e13,a1,b1,c1,d1,u1,l1,el,hln]
  refine G4 [(0,true),(1,true),(2,true),(3,true),(4,true),(5,true),(6,true),(1,false),(7,true),(8,true),(9,true)] (by kernel_rfl) (by kernel_rfl) ?_
  simp only [A5,Bc,Ba,A0,A1,Bo,B5,ofOpt,Bb,Nat.reduceLT,Nat.reduceEqDiff,Aa,Ab,Ac,Af,Ag,Ah,Aj,Ak,Am,D6,Cy,Fd,Gf,a1,b1,q0,q1,hf43,Dj,C0,Df,Cn,Gu]
  refine WC.mono (row2_w hk hl hj hll S1 n1) ?_
  rintro _ ⟨S2,rfl,k2⟩
  have g2:S2.mem.get S.next=some (.box (exC 14 pos n name off kv)):=(k2.2 _ lt1).trans g1
  have a2:=Kf g2
  have b2:=E3 g2
  have c2:=Ga g2
  have d2:=Jn g2
  have u2:=lxN g2
  have l2:=I3 g2 rfl
  simp only [Bp]
  simp only [Bw,A4,A5,Bc,Ba,A0,A1,ofOpt,Bb,Bg,By,Bf,Cl,Nat.reduceLT,Nat.reduceEqDiff,Aa,Ab,Ac,Am,D6,Cy,b2,q2,q3,Ew,Dj,Gn,C0,Cn,Du,D9,Dy,Ed,G3]
  exact ⟨_,by rw [show Dz (.mk 14 pos n name off l)=((([97,119,97,105,116,32] ++ name) ++ [32,97,102,116,101,114,32,40]) ++ Jp l) ++ [41] by show Tw name (De l)=_; unfold Tw; rw [if_pos (by rw [Pc]; exact hp),nB]; simp only [List.append_assoc]],k1.trans k2⟩
set_option maxHeartbeats 16000000 in
theorem ref_k6 {pos:Nat} {n:Int} {name:List UInt8} {off:Bool} {kv:AV} {x y:PE} (hx:RefK x) (hy:RefK y) (hk:RepK kv [x,y]) (hnm:name.length ≤ 30) (S:St) (hn2:2 ≤ S.next):WC E8 14 [.agg (exC 6 pos n name off kv)] S (fun r=>∃ S',r=.ret (Bp (Dz (.mk 6 pos n name off [x,y]))) S' ∧ Eg S S'):=by
 refine Dx Tryz.f14 (by kernel_rfl) (by kernel_rfl) (by kernel_rfl) (show (_:Nat) ≤ _ from by show (_:Nat) ≤ _; simp [Tryz.f14]) ?_
 obtain ⟨fn14,hf14⟩:=Lg
 obtain ⟨fn40,hf40⟩:=Lz
 obtain ⟨fn41,hf41⟩:=Mr
 obtain ⟨fn42,hf42⟩:=Ly
 obtain ⟨fn43,hf43⟩:=Mq
 have rf:=(RepE.mk 6 pos n name off kv _ hk).refl
 have rk:=hk.refl
 obtain ⟨tok,tof,y0,y1,rfl,⟨r0,z0⟩,r1,z1⟩:=yJ hk
 have w0:=r0.refl
 have v0:=Hq r0
 have p0:=fun S=>J5 S z0
 have w1:=r1.refl
 have v1:=Hq r1
 have p1:=fun S=>J5 S z1
 have g1:=Db S (exC 6 pos n name off (.sl tok tof 6 [.agg y0,.agg y1]))
 have k1:=C4 S (exC 6 pos n name off (.sl tok tof 6 [.agg y0,.agg y1]))
 have lt1:S.next < (S.newBox (exC 6 pos n name off (.sl tok tof 6 [.agg y0,.agg y1]))).next:=Nat.lt_succ_self _
 generalize hS1:S.newBox (exC 6 pos n name off (.sl tok tof 6 [.agg y0,.agg y1]))=S1 at g1 k1 lt1
 have n1:2 ≤ S1.next:=Nat.le_trans hn2 k1.1
 have e1:(((6:Nat):Int) == 1)=false:=rfl
 have e2:(((6:Nat):Int) == 2)=false:=rfl
 have e3:(((6:Nat):Int) == 3)=false:=rfl
 have e4:(((6:Nat):Int) == 4)=false:=rfl
 have e5:(((6:Nat):Int) == 5)=false:=rfl
 have e6:(((6:Nat):Int) == 6)=true:=rfl
 have t0:=hx.len
 have t1:=hy.len
 have hsb:F1 name ≤ 7:=by
  unfold F1
  repeat' split
  all_goals omega
 have hw:=Ka (i:=F1 name) (by omega)
 have tk1:=Ki hy (F1 name + 1)
 have a1:=Kf g1
 have b1:=E3 g1
 have c1:=Ga g1
 have d1:=Jn g1
 have u1:=lxN g1
 have l1:=I3 g1 rfl
 have bep0:Gr (.ep y0) (.ep y0)=true:=v0
 have bep1:Gr (.ep y1) (.ep y1)=true:=v1
 simp only [Br,A6,Ch,Bl,Bq,Bt,Bw,A4,B0,Bs,Bz,Bh,A7,Bj,Cb,Bi,Ci,Cg,A5,Bc,Ba,Cc,A0,A1,Bo,B5,ofOpt,Bb,Bv,Bg,By,Bf,Cl,B7,Nat.reduceLT,Nat.reduceEqDiff,Aa,Ab,Ac,Ae,Aj,Ak,Am,D6,Dq,Tryz.f14,hS1,Cd,Ce,Eh,E4,Fd,Js,Gf,Ht,e1,e2,e3,e4,e5,e6,a1,b1,c1,d1,u1,l1,hf40,hf42]
 refine WC.mono (sT 6 pos ⟨by decide,by decide⟩ n name off (.sl tok tof 6 [.agg y0,.agg y1]) [x,y] S1) ?_
 rintro _ ⟨S2,rfl,k2⟩
 have g2:S2.mem.get S.next=some (.box (exC 6 pos n name off (.sl tok tof 6 [.agg y0,.agg y1]))):=(k2.2 _ lt1).trans g1
 have lt2:S.next < S2.next:=Nat.lt_of_lt_of_le lt1 k2.1
 have n2:2 ≤ S2.next:=Nat.le_trans n1 k2.1
 have a2:=Kf g2
 have b2:=E3 g2
 have c2:=Ga g2
 have d2:=Jn g2
 have u2:=lxN g2
 have l2:=I3 g2 rfl
 have eb:Dh (.mk 6 pos n name off [x,y])=F1 name:=by simp [Dh]
 rw [eb]
 simp only [D0]
 by_cases h5:F1 name=5
 ·have h5e:(((F1 name:Nat):Int) == 5)=true:=by rw [h5]; rfl
  have tk0:=Ki hx (6)
  have q0:=C5 (kTe x (6)) ([32]) (by first | omega | (simp only [List.length_append,List.length_cons,List.length_nil]; omega))
  have q1:=C5 ((kTe x (6)) ++ [32]) (name) (by first | omega | (simp only [List.length_append,List.length_cons,List.length_nil]; omega))
  have q2:=C5 (((kTe x (6)) ++ [32]) ++ name) ([32]) (by first | omega | (simp only [List.length_append,List.length_cons,List.length_nil]; omega))
  have q3:=C5 ((((kTe x (6)) ++ [32]) ++ name) ++ [32]) (kTe y (F1 name + 1)) (by first | omega | (simp only [List.length_append,List.length_cons,List.length_nil]; omega))
  simp only [Br,A6,Ch,Bl,Bq,A4,Bh,A7,Bj,Bi,Cz,Ci,A5,Bc,Ba,A0,A1,ofOpt,Bb,Bv,B7,Nat.reduceLT,Nat.reduceEqDiff,Aa,Ab,Ac,Am,D6,h5e]
  refine G4 [(0,true),(1,true),(2,true),(3,true),(4,true),(7,true),(8,true),(11,true),(12,true),(13,true),(14,true),(15,true),(16,true),(5,true),(14,false),(12,false),(8,false),(6,true),(9,true),(10,true),(17,true),(8,false),(18,true),(19,true)] (by kernel_rfl) (by kernel_rfl) ?_
  simp only [A5,Bc,Ba,A0,A1,Bo,B5,ofOpt,Bb,Bv,Dl,Nat.reduceLT,Nat.reduceEqDiff,Aa,Ab,Ac,Af,Ag,Ah,Aj,Ak,Am,D6,Fd,Gf,Ht,Ui,a2,b2,hf41,p0,p1,hw,Dj,C0,Df,Cn,Gu]
  refine WC.mono (Lf hx r0 (6) S2 n2) ?_
  rintro _ ⟨S3,rfl,k3⟩
  have g3:S3.mem.get S.next=some (.box (exC 6 pos n name off (.sl tok tof 6 [.agg y0,.agg y1]))):=(k3.2 _ lt2).trans g2
  have lt3:S.next < S3.next:=Nat.lt_of_lt_of_le lt2 k3.1
  have n3:2 ≤ S3.next:=Nat.le_trans n2 k3.1
  have a3:=Kf g3
  have b3:=E3 g3
  have c3:=Ga g3
  have d3:=Jn g3
  have u3:=lxN g3
  have l3:=I3 g3 rfl
  simp only [Bp]
  simp only [A5,Bc,Ba,A0,A1,Bo,B5,ofOpt,Bb,Nat.reduceLT,Nat.reduceEqDiff,Aa,Ab,Ac,Aj,Ak,Am,D6,Cy,q0,q1,q2,hf41,rk,w1,p1,a3,b3,Dj,Gn,C0,Df,Cn,Du,Dy,Ed,G3]
  refine WC.mono (Lf hy r1 (F1 name + 1) S3 n3) ?_
  rintro _ ⟨S4,rfl,k4⟩
  have g4:S4.mem.get S.next=some (.box (exC 6 pos n name off (.sl tok tof 6 [.agg y0,.agg y1]))):=(k4.2 _ lt3).trans g3
  have a4:=Kf g4
  have b4:=E3 g4
  have c4:=Ga g4
  have d4:=Jn g4
  have u4:=lxN g4
  have l4:=I3 g4 rfl
  simp only [Bp]
  simp only [Bw,A4,B0,Bz,A5,Bc,Ba,A0,A1,ofOpt,Bg,By,Bf,Cl,Nat.reduceLT,Nat.reduceEqDiff,Aa,Ab,Ac,Am,D6,Cy,q3,b4,Ew,Dj,Gn,C0,Cn,Du,D9,Dy,Ed,G3]
  exact ⟨_,by rw [show Dz (.mk 6 pos n name off [x,y])=(((kTe x (6) ++ [32]) ++ name) ++ [32]) ++ kTe y (F1 name + 1) by show gJ name (De [x,y])=_; unfold gJ; rw [if_pos h5]; rfl],((k1.trans k2).trans k3).trans k4⟩
 ·have h5e:(((F1 name:Nat):Int) == 5)=false:=by rw [beq_eq_false_iff_ne]; omega
  have tk0:=Ki hx (F1 name)
  have q0:=C5 (kTe x (F1 name)) ([32]) (by first | omega | (simp only [List.length_append,List.length_cons,List.length_nil]; omega))
  have q1:=C5 ((kTe x (F1 name)) ++ [32]) (name) (by first | omega | (simp only [List.length_append,List.length_cons,List.length_nil]; omega))
  have q2:=C5 (((kTe x (F1 name)) ++ [32]) ++ name) ([32]) (by first | omega | (simp only [List.length_append,List.length_cons,List.length_nil]; omega))
  have q3:=C5 ((((kTe x (F1 name)) ++ [32]) ++ name) ++ [32]) (kTe y (F1 name + 1)) (by first | omega | (simp only [List.length_append,List.length_cons,List.length_nil]; omega))
  simp only [Br,A6,Ch,Bl,Bq,A4,Bh,A7,Bj,Bi,Cz,Cg,A5,Bc,Ba,A0,A1,ofOpt,Bb,Bv,B7,Nat.reduceLT,Nat.reduceEqDiff,Aa,Ab,Ac,Am,D6,h5e]
  refine G4 [(0,true),(1,true),(2,true),(3,true),(4,true),(7,true),(8,true),(11,true),(12,true),(13,true),(14,true),(15,true),(16,true),(5,true),(14,false),(12,false),(8,false),(6,true),(9,true),(10,true),(17,true),(8,false),(18,true),(19,true)] (by kernel_rfl) (by kernel_rfl) ?_
  simp only [A5,Bc,Ba,A0,A1,Bo,B5,ofOpt,Bb,Bv,Dl,Nat.reduceLT,Nat.reduceEqDiff,Aa,Ab,Ac,Af,Ag,Ah,Aj,Ak,Am,D6,Fd,Gf,Ht,Ui,a2,b2,hf41,p0,p1,hw,Dj,C0,Df,Cn,Gu]
  refine WC.mono (Lf hx r0 (F1 name) S2 n2) ?_
  rintro _ ⟨S3,rfl,k3⟩
  have g3:S3.mem.get S.next=some (.box (exC 6 pos n name off (.sl tok tof 6 [.agg y0,.agg y1]))):=(k3.2 _ lt2).trans g2
  have lt3:S.next < S3.next:=Nat.lt_of_lt_of_le lt2 k3.1
  have n3:2 ≤ S3.next:=Nat.le_trans n2 k3.1
  have a3:=Kf g3
  have b3:=E3 g3
  have c3:=Ga g3
  have d3:=Jn g3
  have u3:=lxN g3
  have l3:=I3 g3 rfl
  simp only [Bp]
  simp only [A5,Bc,Ba,A0,A1,Bo,B5,ofOpt,Bb,Nat.reduceLT,Nat.reduceEqDiff,Aa,Ab,Ac,Aj,Ak,Am,D6,Cy,q0,q1,q2,hf41,rk,w1,p1,a3,b3,Dj,Gn,C0,Df,Cn,Du,Dy,Ed,G3]
  refine WC.mono (Lf hy r1 (F1 name + 1) S3 n3) ?_
  rintro _ ⟨S4,rfl,k4⟩
  have g4:S4.mem.get S.next=some (.box (exC 6 pos n name off (.sl tok tof 6 [.agg y0,.agg y1]))):=(k4.2 _ lt3).trans g3
  have a4:=Kf g4
  have b4:=E3 g4
  have c4:=Ga g4
  have d4:=Jn g4
  have u4:=lxN g4
  have l4:=I3 g4 rfl
  simp only [Bp]
  simp only [Bw,A4,B0,Bz,A5,Bc,Ba,A0,A1,ofOpt,Bg,By,Bf,Cl,Nat.reduceLT,Nat.reduceEqDiff,Aa,Ab,Ac,Am,D6,Cy,q3,b4,Ew,Dj,Gn,C0,Cn,Du,D9,Dy,Ed,G3]
  exact ⟨_,by rw [show Dz (.mk 6 pos n name off [x,y])=(((kTe x (F1 name) ++ [32]) ++ name) ++ [32]) ++ kTe y (F1 name + 1) by show gJ name (De [x,y])=_; unfold gJ; rw [if_neg h5]; rfl],((k1.trans k2).trans k3).trans k4⟩
set_option maxHeartbeats 16000000 in
theorem ref_k4 {pos:Nat} {n:Int} {name:List UInt8} {off:Bool} {kv:AV} {x:PE} (hx:RefK x) (hk:RepK kv [x]) (hnm:name.length ≤ 30) (S:St) (hn2:2 ≤ S.next) (hne:Dz x ≠ []):WC E8 14 [.agg (exC 4 pos n name off kv)] S (fun r=>∃ S',r=.ret (Bp (Dz (.mk 4 pos n name off [x]))) S' ∧ Eg S S'):=by
 refine Dx Tryz.f14 (by kernel_rfl) (by kernel_rfl) (by kernel_rfl) (show (_:Nat) ≤ _ from by show (_:Nat) ≤ _; simp [Tryz.f14]) ?_
 obtain ⟨fn14,hf14⟩:=Lg
 obtain ⟨fn40,hf40⟩:=Lz
 obtain ⟨fn41,hf41⟩:=Mr
 obtain ⟨fn42,hf42⟩:=Ly
 obtain ⟨fn43,hf43⟩:=Mq
 have rf:=(RepE.mk 4 pos n name off kv _ hk).refl
 have rk:=hk.refl
 obtain ⟨tok,tof,y0,rfl,r0,z0⟩:=yK hk
 have w0:=r0.refl
 have v0:=Hq r0
 have p0:=fun S=>J5 S z0
 have g1:=Db S (exC 4 pos n name off (.sl tok tof 6 [.agg y0]))
 have k1:=C4 S (exC 4 pos n name off (.sl tok tof 6 [.agg y0]))
 have lt1:S.next < (S.newBox (exC 4 pos n name off (.sl tok tof 6 [.agg y0]))).next:=Nat.lt_succ_self _
 generalize hS1:S.newBox (exC 4 pos n name off (.sl tok tof 6 [.agg y0]))=S1 at g1 k1 lt1
 have n1:2 ≤ S1.next:=Nat.le_trans hn2 k1.1
 have e1:(((4:Nat):Int) == 1)=false:=rfl
 have e2:(((4:Nat):Int) == 2)=false:=rfl
 have e3:(((4:Nat):Int) == 3)=false:=rfl
 have e4:(((4:Nat):Int) == 4)=true:=rfl
 have t0:=hx.len
 have tk0:=Ki hx 8
 have fae:=fa24e y0 z0
 have epk:=ep_kind r0
 have a1:=Kf g1
 have b1:=E3 g1
 have c1:=Ga g1
 have d1:=Jn g1
 have u1:=lxN g1
 have l1:=I3 g1 rfl
 have bep0:Gr (.ep y0) (.ep y0)=true:=v0
 simp only [Br,A6,Ch,Bl,Bq,Bt,Bw,A4,B0,Bs,Bz,Bh,A7,Bj,Cb,Bi,Ci,Cg,A5,Bc,Ba,Cc,A0,A1,Bo,B5,ofOpt,Bb,Bv,Bg,By,Bf,Cl,B7,Nat.reduceLT,Nat.reduceEqDiff,Aa,Ab,Ac,Ae,Aj,Ak,Am,D6,Dq,Tryz.f14,hS1,Cd,Ce,Eh,E4,Fd,Js,Gf,Ht,e1,e2,e3,e4,a1,b1,c1,d1,u1,l1,hf40,hf41,hf42,p0]
 refine WC.mono (Lf hx r0 8 S1 n1) ?_
 rintro _ ⟨S2,rfl,k2⟩
 have g2:S2.mem.get S.next=some (.box (exC 4 pos n name off (.sl tok tof 6 [.agg y0]))):=(k2.2 _ lt1).trans g1
 have lt2:S.next < S2.next:=Nat.lt_of_lt_of_le lt1 k2.1
 have n2:2 ≤ S2.next:=Nat.le_trans n1 k2.1
 have a2:=Kf g2
 have b2:=E3 g2
 have c2:=Ga g2
 have d2:=Jn g2
 have u2:=lxN g2
 have l2:=I3 g2 rfl
 simp only [Bp]
 obtain ⟨ch,rest,hs⟩:∃ ch rest,kTe x 8=ch :: rest:=by
  cases hq:kTe x 8 with
  | nil =>
   exfalso
   unfold kTe at hq
   split at hq
   ·cases hq
   ·exact hne hq
  | cons a r=>exact ⟨a,r,rfl⟩
 have hk0:kT (De [x]) 0 8=kTe x 8:=rfl
 have hk00:(De [x])[0]? = some ⟨Dz x,Dh x,I4 x⟩:=rfl
 have hix:=ix9 ch rest
 rw [← hs] at hix
 by_cases hb:I4 x=1 ∨ Ef [45] (kTe x 8)=true
 ·have hkt:kTe x 8=Dz x:=by
   unfold kTe
   rw [if_neg]
   rcases hb with h1 | h1
   ·cases x with
    | mk kind pos n name off kids =>
     have h1:kind=1:=h1
     subst h1
     show ¬ Dh _ < 8
     simp only [Dh,Aa]
     split <;> omega
   ·intro hlt
    have:kTe x 8=40 :: (Dz x ++ [41]):=by unfold kTe; rw [if_pos hlt]
    rw [this] at h1
    exact absurd h1 (by simp [Ef])
  have tE:Dz (.mk 4 pos n name off [x])=([45,40] ++ Dz x) ++ [41]:=by
   show Yj (De [x])=_
   unfold Yj
   rw [if_pos,hk0,hkt]
   rcases hb with h1 | h1
   ·exact .inl ⟨_,hk00,h1⟩
   ·exact .inr h1
  have c1:=C5 [45,40] (Dz x) (by simp only [List.length_cons,List.length_nil]; omega)
  have c2:=C5 ([45,40] ++ Dz x) [41] (by simp only [List.length_append,List.length_cons,List.length_nil]; omega)
  by_cases h1:I4 x=1
  ·have e1x:(((I4 x:Nat):Int) == 1)=true:=by rw [h1]; rfl
   simp only [Br,A6,Bl,Bq,A4,Bh,A7,Ct,Bj,Cb,Bi,Cz,Ci,A5,Bc,Ba,A0,A1,Bo,B5,ofOpt,Bb,Bv,B7,Nat.reduceLT,Nat.reduceEqDiff,Aa,Ab,Ac,Af,Ag,Ah,Ai,Aj,Ak,Am,Aw,D6,Hx,Cy,Gf,Ht,a2,hf14,p0,fae,epk,mR,e1x]
   refine WC.mono (hx.ok y0 r0 S2 n2) ?_
   rintro _ ⟨S3,rfl,k3⟩
   simp only [Bp]
   simp only [Bw,A4,B0,Bz,Bh,A7,Bj,Bi,Cz,A5,Bc,Ba,A0,A1,ofOpt,Bb,Bg,By,Bf,Cl,Nat.reduceLT,Nat.reduceEqDiff,Aa,Ab,Ac,Am,D6,Cy,c2,c1]
   exact ⟨_,by rw [tE],(k1.trans k2).trans k3⟩
  ·have e1x:(((I4 x:Nat):Int) == 1)=false:=by rw [beq_eq_false_iff_ne]; omega
   have hst:Ef [45] (kTe x 8)=true:=by rcases hb with h | h; exact absurd h h1; exact h
   have hch:(((ch.toNat:Nat):Int) == 45)=true:=by
    rw [hs] at hst
    have:ch=45:=by simpa [Ef] using hst
    rw [this]; rfl
   simp only [Br,A6,Bl,Bq,A4,Bh,A7,Bj,Cb,Bi,Cz,Ci,A5,Bc,Ba,A0,A1,Bo,B5,ofOpt,Bb,Bv,B7,Nat.reduceLT,Nat.reduceEqDiff,Aa,Ab,Ac,Af,Ag,Ah,Ai,Aj,Ak,Al,Am,D6,Hx,Cy,Gf,Ht,a2,hf14,p0,fae,epk,mR,e1x,hix,hch]
   refine WC.mono (hx.ok y0 r0 S2 n2) ?_
   rintro _ ⟨S3,rfl,k3⟩
   simp only [Bp]
   simp only [Bw,A4,B0,Bz,Bh,A7,Bj,Bi,Cz,A5,Bc,Ba,A0,A1,ofOpt,Bb,Bg,By,Bf,Cl,Nat.reduceLT,Nat.reduceEqDiff,Aa,Ab,Ac,Am,D6,Cy,c2,c1]
   exact ⟨_,by rw [tE],(k1.trans k2).trans k3⟩
 ·have h1:¬ I4 x=1:=fun e=>hb (.inl e)
  have e1x:(((I4 x:Nat):Int) == 1)=false:=by rw [beq_eq_false_iff_ne]; omega
  have hch:(((ch.toNat:Nat):Int) == 45)=false:=by
   rw [beq_eq_false_iff_ne]
   intro e
   apply hb
   right
   rw [hs]
   have:ch=45:=UInt8.toNat_inj.1 (by have h45:(45:UInt8).toNat=45:=rfl; omega)
   simp [Ef,this]
  have tE:Dz (.mk 4 pos n name off [x])=[45] ++ kTe x 8:=by
   show Yj (De [x])=_
   unfold Yj
   rw [if_neg,hk0]
   rintro (⟨k,h2,h3⟩ | h2)
   ·rw [hk00] at h2; injection h2 with h2; subst h2; exact h1 h3
   ·exact hb (.inr h2)
  have c1:=C5 [45] (kTe x 8) (by simp only [List.length_cons,List.length_nil]; omega)
  simp only [Br,A6,Bl,Bq,Bw,A4,B0,Bz,Bh,A7,Bj,Cb,Bi,Cz,Cg,A5,Bc,Ba,A0,A1,Bo,B5,ofOpt,Bb,Bv,Bg,By,Bf,Cl,B7,Nat.reduceLT,Nat.reduceEqDiff,Aa,Ab,Ac,Af,Ag,Ah,Ai,Aj,Ak,Al,Am,D6,Cy,Gf,Ht,a2,hf14,p0,fae,epk,mR,e1x,hix,hch,c1]
  exact ⟨_,by rw [tE],k1.trans k2⟩
end Go.Ax
noncomputable section
namespace Go.Ax
open Go.RowKit Go.Proofs
set_option maxRecDepth 100000
theorem good_kind {e:PE} (h:GoodT e):1 ≤ I4 e ∧ I4 e ≤ 14:=by
 cases h with
 | mk kind pos n name off kids hs hk=>cases hs <;> simp [I4]
theorem itoa_ne (n:Int):Lib.itoa n ≠ []:=by
 have:∀ k,Lib.decDigits k ≠ []:=fun k=>by obtain ⟨c,r,e,_⟩:=Q7 k; rw [e]; exact List.cons_ne_nil _ _
 by_cases h:n < 0
 ·rw [W4 n h]; exact List.cons_ne_nil _ _
 ·rw [Qx n h]; exact this _
theorem isName_ne {s:List UInt8} (h:Ox s):s ≠ []:=by
 intro e; subst e
 simp [Ox] at h
theorem text_ne {e:PE} (h:GoodT e):Dz e ≠ []:=by
 cases h with
 | mk kind pos n name off kids hs hk =>
  show Md kind n name off (De kids) ≠ []
  cases hs with
  | num n h=>exact itoa_ne n
  | truth n h=>show (if n=0 then _ else _) ≠ ([]:List UInt8); split <;> simp
  | var name h=>exact isName_ne h
  | neg x=>show Yj _ ≠ []; unfold Yj; split <;> simp
  | not x=>simp [Md]
  | bin name x y h=>simp [Md,gJ]
  | ite x y z=>simp [Md]
  | arrow x y=>simp [Md]
  | fby x y h=>simp [Md]
  | pre x=>simp [Md]
  | when name off x h=>show kT _ 0 9 ++ Oy name off ≠ []; unfold Oy; split <;> simp
  | merge name x y h=>simp [Md]
  | call name l h=>simp [Md]
  | await name l h hl=>show Tw _ _ ≠ []; unfold Tw; split <;> simp
theorem bX:∀ (l:List PE) (i:Nat),Gj.sizeL (l.take i) ≤ Gj.sizeL l
 | [],i=>by simp
 | e :: r,0=>by rw [List.take_zero,Ji]; omega
 | e :: r,i + 1=>by
  rw [List.take_succ_cons,Ge,Ge]
  have:=bX r i; omega
inductive Few:PE → Prop where
 | mk (kind pos:Nat) (n:Int) (name:List UInt8) (off:Bool) (kids:List PE) (h:kids.length ≤ 1000) (hk:∀ e ∈ kids,Few e):Few (.mk kind pos n name off kids)
theorem ref_ok {e:PE} (h:GoodT e):Few e → Fit e → Gj e ≤ 1000000 → RefOk e:=by
 induction h with
 | mk kind pos n name off kids hs hk ih =>
  intro hw hf hz ys hr S hn
  obtain ⟨hb,hm,hfk⟩:(-9223372036854775808 ≤ n ∧ n ≤ 9223372036854775807) ∧ name.length ≤ 30 ∧ (∀ e ∈ kids,Fit e):=by cases hf; exact ⟨‹_›,‹_›,‹_›⟩
  obtain ⟨hl0,hwk⟩:kids.length ≤ 1000 ∧ (∀ e ∈ kids,Few e):=by cases hw; exact ⟨‹_›,‹_›⟩
  rw [Iz] at hz
  have K:∀ x ∈ kids,RefK x:=fun x hx=>by
   have hsx:=bW hx
   exact ⟨ih x hx (hwk x hx) (hfk x hx) (by omega),good_kind (hk x hx),by have:=V5 (hfk x hx); omega⟩
  have J:∀ i,(Jp (kids.take i)).length ≤ 1000000000:=fun i=>by
   rw [← nB]
   have h1:=Pd (De (kids.take i))
   have h2:=T4 (kids.take i) (fun x hx=>hfk x (List.mem_of_mem_take hx))
   have h3:=bX kids i
   omega
  cases hr with
  | mk _ _ _ _ _ kv _ hkv =>
  cases hs with
  | num n h=>exact ref_k1 hkv hm S hn hb
  | truth n h=>exact ref_k2 hkv hm S hn h
  | var name h=>exact ref_k3 hkv hm S hn
  | neg x=>exact ref_k4 (K _ (by simp)) hkv hm S hn (text_ne (hk _ (by simp)))
  | not x=>exact ref_k5 (K _ (by simp)) hkv hm S hn
  | bin name x y h=>exact ref_k6 (K _ (by simp)) (K _ (by simp)) hkv hm S hn
  | ite x y z=>exact ref_k7 (K _ (by simp)) (K _ (by simp)) (K _ (by simp)) hkv hm S hn
  | arrow x y=>exact ref_k8 (K _ (by simp)) (K _ (by simp)) hkv hm S hn
  | fby x y h=>exact ref_k9 (K _ (by simp)) (K _ (by simp)) hkv hm S hn
  | pre x=>exact ref_k10 (K _ (by simp)) hkv hm S hn
  | when name off x h=>exact ref_k11 (K _ (by simp)) hkv hm S hn
  | merge name x y h=>exact ref_k12 (K _ (by simp)) (K _ (by simp)) hkv hm S hn
  | call name l h=>exact ref_k13 K J hl0 hkv hm S hn
  | await name l h hl=>exact ref_k14 K J hl0 hkv hm S hn
-- Same
theorem fb_neS (s:ByteArray):Ea .neq (.v (.string s)) (.v (.string s))=some (.v (.bool false)):=by
 have h:Kl s.data.toList s.data.toList=true:=by rw [I9]; simp
 simp [Ea,h]
theorem neNil4x (a b:AV):Hs Tryz.prog 4 a b=false:=by
 have h:Tryz.prog.underlying 4=some .bool:=by kernel_rfl
 unfold Hs; rw [h]
theorem fb_boolx (op:BinOp) (a b:Bool):Ea op (.v (.bool a)) (.v (.bool b))=none:=rfl
def neqBO (r:OR) (S:St) (x y:Option AV):OR:=match x,y with
 | some (.v (.bool a)),some (.v (.bool b))=>.val (.v (.bool (a != b))) S
 | _,_=>r
theorem neqBO_bb (r:OR) (S:St) (a b:Bool):neqBO r S (some (.v (.bool a))) (some (.v (.bool b)))=.val (.v (.bool (a != b))) S:=_root_.id rfl
theorem fastEqB (a b:Bool):Lh Tryz.prog .neq 4 (.v (.bool a)) (.v (.bool b))=none:=by cases a <;> cases b <;> kernel_rfl
theorem eqOr_neqB (f:T AV) (S:St) (dst:Option Tmp) (k l:Tmp) (ty:TypeId) (pos:String) (af:Array Edge) (gd:Option (Nat × Bool)) (a b:Bool) :
  Ma Tryz.prog G7 f S { dst:=dst,op:=.binOp .neq 4 (.tmp k) (.tmp l) 4,type:=ty,pos:=pos,after:=af,guard:=gd } .neq 4 (.v (.bool a)) (.v (.bool b))=neqBO (eH Tryz.prog G7 f S { dst:=dst,op:=.binOp .neq 4 (.tmp k) (.tmp l) 4,type:=ty,pos:=pos,after:=af,guard:=gd } .neq 4 (.v (.bool a)) (.v (.bool b))) S (f.get k) (f.get l):=by
 unfold neqBO
 split
 ·rename_i x y h1 h2
  have hg1:Dm G7 f (.tmp k)=some (.bool x):=by unfold Dm; simp only [Ba,h1]; rfl
  have hg2:Dm G7 f (.tmp l)=some (.bool y):=by unfold Dm; simp only [Ba,h2]; rfl
  unfold Ma
  rw [fastEqB]
  simp only
  unfold ground
  have hall:((Op.binOp .neq 4 (.tmp k) (.tmp l) 4:Op).operands.toList.all fun x=>(Dm G7 f x).isSome)=true:=by
   show ([Operand.tmp k,Operand.tmp l].all fun x=>(Dm G7 f x).isSome)=true
   simp only [List.all_cons,List.all_nil,hg1,hg2,Option.isSome_some,Bool.and_self]
  refine (if_pos hall).trans ?_
  have e:execOp (fun x=>(Dm G7 f x).getD undef) { dst:=dst,op:=.binOp .neq 4 (.tmp k) (.tmp l) 4,type:=ty,pos:=pos,after:=af,guard:=gd }=execOp (mT (.bool x) (.bool y)) { dst:=none,op:=.binOp .neq 4 (.tmp 0) (.tmp 1) 4,type:=4,pos := "", after:=#[],guard:=none }:=by
   simp only [execOp,hg1,hg2,Ae]
   rfl
  rw [e]
  cases x <;> cases y <;> rfl
 ·rfl
theorem lx28 {S:St} {id kind pos:Nat} {n:Int} {name:List UInt8} {off:Bool} {kv:AV} (h:S.mem.get id=some (.box (exC kind pos n name off kv))):C3 Tryz.prog S 28 (.ptr id 5)=some kv:=by
 have:Fm Tryz.prog 28=some false:=by kernel_rfl
 simp [C3,Dr,h,this,exC]
theorem un28:Tryz.prog.underlying 28=some (.slice 30):=by kernel_rfl
theorem len28r (S:St) {v:AV} {l:List PE} (h:RepK v l):Hp Tryz.prog S 28 v=some l.length:=by
 cases h with
 | nil=>simp [Hp,un28]
 | row tok off es kids h=>simp [Hp,un28,Ss h]
theorem idx28x (tok off:Nat) (es:List AV) (j:Nat) (ys:List AV) (hy:es[j]? = some (.agg ys)):Cm Tryz.prog 28 (.sl tok off 6 es) (.v (.int .i64 (j:Int)))=some (.ep ys):=by
 have e28':Ir Tryz.prog 28=some (none,30):=by kernel_rfl
 have s30':Fo Tryz.prog 30=some 6:=by kernel_rfl
 simp [Cm,e28',s30',hy,AV.cells]
theorem ld30epx (S:St) {cs:List AV} (hl:cs.length=6):C3 Tryz.prog S 30 (.ep cs)=some (.agg cs):=by
 have a30':Fm Tryz.prog 30=some true:=by kernel_rfl
 have s30':Fo Tryz.prog 30=some 6:=by kernel_rfl
 simp [C3,Dr,a30',s30',hl]
 rw [List.take_of_length_le (by omega)]
theorem yI {kv:AV} {l:List PE} (h:RepK kv l) (hl:0 < l.length):∃ tok off es,kv=.sl tok off 6 es ∧ RepF es l:=by
 cases h with
 | nil=>simp at hl
 | row tok off es kids h=>exact ⟨_,_,_,rfl,h⟩
theorem Ue:∀ {l m:List PE},LikeL l m → l.length=m.length
 | _,_,.nil=>rfl
 | _,_,.cons a b l m h h2=>by simp [Ue h2]
theorem jE:∀ {l m:List PE},LikeL l m → ∀ (i:Nat) (h1:i < l.length) (h2:i < m.length),LikeE l[i] m[i]
 | _,_,.nil,i,h1,_=>absurd h1 (Nat.not_lt_zero _)
 | _,_,.cons a b l m h h2,0,_,_=>h
 | _,_,.cons a b l m h h2,i + 1,h3,h4=>jE h2 i (by simpa using h3) (by simpa using h4)
def SameOk (e:PE):Prop:=∀ (e':PE) (xs ys:List AV),LikeE e e' → RepE (.agg xs) e' → RepE (.agg ys) e → ∀ S,2 ≤ S.next → WC E8 16 [.agg xs,.agg ys,.v (.bool false)] S (fun r=>∃ S',r=.ret (.v (.int .i64 0)) S' ∧ Eg S S')
noncomputable def bQ:Code:=match Tryz.f16.body with
 | some (.seq _ (.seq _ (.seq (.seq _ (.block _ (.loop b))) _)))=>b
 | _=>.skip
set_option maxHeartbeats 16000000 in
theorem xZ {p q kind pos pos':Nat} {n:Int} {name:List UInt8} {off:Bool} {tok tof tok' tof':Nat} {es es':List AV} (kids kids':List PE) (hr:RepF es kids) (hr':RepF es' kids') (hlk:LikeL kids kids') (hok:∀ e ∈ kids,SameOk e) (hl:kids.length ≤ 1000) (S0:St):∀ (m i:Nat) (t:T AV) (S:St),i + m=kids.length → t.get 2=some (.v (.bool false)) → t.get 3=some (.ptr p 0) → t.get 4=some (.ptr q 0) → t.get 55=some (D0 kids.length) → t.get 56=some (D0 i) →
  S.mem.get p=some (.box (exC kind pos' n name off (.sl tok' tof' 6 es'))) → S.mem.get q=some (.box (exC kind pos n name off (.sl tok tof 6 es))) → p < S.next → q < S.next → 2 ≤ S.next → Eg S0 S →
  WX E8 73 (.loop bQ) ⟨t,[]⟩ S (fun o=>∃ t' S',o=.out (.exit 0) ⟨t',[]⟩ S' ∧ Eg S0 S')
 | 0,i,t,S,hi,h2,h3,h4,h55,h56,hp,hq,lp,lq,hn,hk=>by
  refine Fe (El ?_)
  have hlt:¬ ((i:Int) < (kids.length:Int)):=by omega
  simp only [D0] at h55 h56
  simp only [Cf,Br,A6,Ch,Bl,Bq,Bt,Dk,A4,Ey,Bh,A7,Bj,Bi,Cg,A5,Bc,Ba,A0,ofOpt,Bv,Dd,Nat.reduceLT,Nat.reduceEqDiff,Aa,Ab,Ac,Am,Aq,D6,bQ,Tryz.f16,h55,h56,hlt]
  exact ⟨_,_,rfl,hk⟩
 | m + 1,i,t,S,hi,h2,h3,h4,h55,h56,hp,hq,lp,lq,hn,hk=>by
  refine Fe (El ?_)
  obtain ⟨fn1,hf16⟩:=fn8_16
  have hil:i < kids.length:=by omega
  have hil':i < kids'.length:=by rw [← Ue hlk]; exact hil
  have hlt:((i:Int) < (kids.length:Int)):=by omega
  have hw:=Ka (i:=i) (by omega)
  obtain ⟨ys,hy,hry⟩:=Wf hr i hil
  obtain ⟨xs,hx,hrx⟩:=Wf hr' i hil'
  obtain ⟨zs,hz,hyl⟩:=hry.agg
  injection hz with hz; subst hz
  obtain ⟨zs,hz,hxl⟩:=hrx.agg
  injection hz with hz; subst hz
  have i1:=idx28x tok' tof' es' i xs hx
  have i2:=jQ tok tof es i ys hy
  have d1:=ld30epx S hxl
  have d2:=J5 S hyl
  have a1:=lx28 hp
  have a2:=Kf hq
  have e0:((0:Int) != 0)=false:=rfl
  simp only [D0] at h55 h56
  simp only [Cf,Br,A6,Ch,Bl,Bq,Bt,Dk,A4,Ey,Bh,A7,Bj,Bi,Ci,A5,Bc,Ba,A0,ofOpt,Bv,Dd,Nat.reduceLT,Nat.reduceEqDiff,Aa,Ab,Ac,Am,Ap,D6,bQ,Tryz.f16,h55,h56,hlt]
  refine G4 [(0,true),(1,true),(2,true),(3,true),(4,true),(5,true),(6,true),(7,true),(8,true),(9,true),(10,true),(11,true),(12,true)] (by kernel_rfl) (by kernel_rfl) ?_
  simp only [A5,Bc,Ba,A0,Bo,B5,ofOpt,Nat.reduceLT,Nat.reduceEqDiff,Aa,Ab,Ac,Af,Ag,Ah,Aj,Ak,D6,h2,h3,h4,hf16,i1,i2,d1,d2,a1,a2,Gf,Yr,Dj,C0,Df,Cn,Gu]
  refine WC.mono (hok _ (List.getElem_mem hil) _ xs ys (jE hlk i hil hil') hrx hry S hn) ?_
  rintro _ ⟨S2,rfl,k2⟩
  simp only [B8,C8,Br,A6,Bl,Bq,Bw,A4,B0,Bs,Bz,Bh,A7,Bj,Bi,Cg,A5,Bc,Ba,A0,ofOpt,Bb,Bv,Dl,C2,Nat.reduceLT,Nat.reduceEqDiff,Aa,Ab,Ac,Am,D6,e0,h56,hw,Ew,Dj,C0,Cn,Du,D9]
  refine WX.mono (xZ kids kids' hr hr' hlk hok hl S0 m (i + 1) _ S2 (by omega) ?_ ?_ ?_ ?_ ?_ ((k2.2 _ lp).trans hp) ((k2.2 _ lq).trans hq) (Nat.lt_of_lt_of_le lp k2.1) (Nat.lt_of_lt_of_le lq k2.1) (Nat.le_trans hn k2.1) (hk.trans k2)) (fun r h=>h)
  ·simp only [A0,Nat.reduceEqDiff,Ab,h2]
  ·simp only [A0,Nat.reduceEqDiff,Ab,h3]
  ·simp only [A0,Nat.reduceEqDiff,Ab,h4]
  ·simp only [A0,Nat.reduceEqDiff,Ab,h55]; rfl
  ·simp only [A0,Nat.reduceEqDiff,Aa]; rfl
set_option maxHeartbeats 16000000 in
theorem same_w:∀ {e:PE},Few e → SameOk e:=fun {e} hw=>by
 induction hw with
 | mk kind pos n name off kids hlen hkw ih =>
 intro e' xs ys hlk hrx hry S hn
 cases hlk with
 | mk _ _ pos' _ _ _ _ kids' hll =>
 cases hrx with
 | mk _ _ _ _ _ kv' _ hkv' =>
 cases hry with
 | mk _ _ _ _ _ kv _ hkv =>
 refine Dx Tryz.f16 (by kernel_rfl) (by kernel_rfl) (by kernel_rfl) (show (_:Nat) ≤ _ from by show (_:Nat) ≤ _; simp [Tryz.f16]) ?_
 have g1:=Db S (exC kind pos' n name off kv')
 have k1:=C4 S (exC kind pos' n name off kv')
 have lt1:S.next < (S.newBox (exC kind pos' n name off kv')).next:=Nat.lt_succ_self _
 generalize hS1:S.newBox (exC kind pos' n name off kv')=S1 at g1 k1 lt1
 have g2:=Db S1 (exC kind pos n name off kv)
 have k2:=C4 S1 (exC kind pos n name off kv)
 have lt2:S1.next < (S1.newBox (exC kind pos n name off kv)).next:=Nat.lt_succ_self _
 generalize hS2:S1.newBox (exC kind pos n name off kv)=S2 at g2 k2 lt2
 have g3:=(k2.2 _ lt1).trans g1
 have x0:=Jn g3
 have x2:=lxN g3
 have x3:=E3 g3
 have x4:=Ga g3
 have x5:=lx28 g3
 have y0:=Jn g2
 have y2:=lxN g2
 have y3:=E3 g2
 have y4:=Ga g2
 have y5:=Kf g2
 have e1:((kind:Int) != (kind:Int))=false:=by simp
 have e2:(n != n)=false:=by simp
 have e3:=fb_neS ⟨⟨name⟩⟩
 have e4:(off != off)=false:=by cases off <;> rfl
 have e5:((kids.length:Int) != (kids.length:Int))=false:=by simp
 have l1:=fun S=>len28r S hkv'
 rw [← Ue hll] at l1
 have l2:=fun S=>len22 S hkv
 have key:=fun tok tof tok' tof' es es' hr hr' t h2 h3 h4 h55 h56 hp hq=>xZ (p:=S.next) (q:=S1.next) (kind:=kind) (pos:=pos) (pos':=pos') (n:=n) (name:=name) (off:=off) (tok:=tok) (tof:=tof) (tok':=tok') (tof':=tof') (es:=es) (es':=es') kids kids' hr hr' hll ih hlen S kids.length 0 t S2 (by omega) h2 h3 h4 h55 h56 hp hq (Nat.lt_trans lt1 lt2 |> fun h=>by have:=k2.1; omega) lt2 (by have:=k1.1; have:=k2.1; omega) (k1.trans k2)
 unfold bQ at key
 simp only [Tryz.f16] at key
 simp only [Br,A6,Bl,Bq,Bt,D5,Bw,A4,B0,Bh,A7,Ct,Bj,Bi,Cg,A5,Bc,Ba,Cc,A0,A1,Bo,ofOpt,Bb,Bv,Bg,By,Bf,Cl,C2,Nat.reduceLT,Nat.reduceAdd,Nat.reduceEqDiff,Aa,Ab,Ac,Ae,Af,Ag,Ah,Ai,Al,Am,Ar,Av,D6,Hx,Cy,Dq,Tryz.f16,hS1,hS2,x0,x2,x3,x4,x5,y0,y2,y3,y4,y5,e1,e2,e3,e4,e5,l1,l2,neNil4x,fb_boolx,eqOr_neqB,neqBO_bb,Cd,Ce,Eh,Vp,E4,Fd,Js,Gf,fe0,fe1,fe2,fe3,fe4,Yr]
 by_cases h0:kids.length=0
 ·refine Fe (El ?_)
  have hlt:¬ ((0:Int) < (kids.length:Int)):=by omega
  simp only [Cf,Br,A6,Ch,Bl,Bq,Bt,Dk,Bw,A4,Ey,F7,Bh,A7,Bj,Bi,Cg,A5,Bc,Ba,A0,A1,ofOpt,Bb,Bv,Bg,By,Bf,Cl,Dd,Nat.reduceLT,Nat.reduceEqDiff,Aa,Ab,Ac,Am,Aq,D6,hlt]
  exact ⟨_,rfl,k1.trans k2⟩
 ·obtain ⟨tok,tof,es,rfl,hr⟩:=yI hkv (by omega)
  obtain ⟨tok',tof',es',rfl,hr'⟩:=yI hkv' (by rw [← Ue hll]; omega)
  refine WX.mono (key tok tof tok' tof' es es' hr hr' _ ?_ ?_ ?_ ?_ ?_ g3 g2) ?_
  ·simp only [A0,A1,Nat.reduceEqDiff,Aa,Ab]
  ·simp only [A0,A1,Nat.reduceEqDiff,Aa,Ab]
  ·simp only [A0,A1,Nat.reduceEqDiff,Aa,Ab]
  ·simp only [A0,A1,Nat.reduceEqDiff,Aa,Ab]; rfl
  ·simp only [A0,A1,Nat.reduceEqDiff,Aa,Ab]; rfl
  rintro o ⟨t',S3,rfl,k3⟩
  simp only [A6,Bl,Bw,A4,Ey,F7,Bh,A7,Bj,Bi,A5,Bc,Ba,A0,ofOpt,Bb,Bg,By,Bf,Cl,Nat.reduceLT,Aa,Ac]
  exact ⟨_,rfl,k3⟩
end Go.Ax
noncomputable section
namespace Go.Ax
open Go.RowKit Go.Proofs
set_option maxRecDepth 100000
def L8 (k a n:Int) (s:ByteArray) (b:Bool) (kv:AV):List AV:=[.v (.int .i64 k),.v (.int .i64 a),.v (.int .i64 n),.v (.string s),.v (.bool b),kv]
mutual
inductive RawE:AV → Prop where
 | mk (k a n:Int) (s:ByteArray) (b:Bool) (kv:AV) (hn:-9223372036854775808 ≤ n ∧ n ≤ 9223372036854775807) (h:RawK kv):RawE (.agg (L8 k a n s b kv))
inductive RawK:AV → Prop where
 | nil:RawK .nils
 | row (tok off:Nat) (es:List AV) (h:∀ e ∈ es,RawE e):RawK (.sl tok off 6 es)
 | emp (a:Addr):RawK (.v (.slice (some a) 0 0))
end
structure SomeE (d:Nat) (e:PE):Prop where
 good:GoodT e
 fit:Fit e
 few:Few e
 size:Gj e ≤ 4 ^ d
 deep:Lb e ≤ d
def Ready (deep K:Nat) (n:Int) (name:List UInt8) (off:Bool) (need:Nat):Prop :=
 need ≤ 3 ∧ (0 < need → 2 ≤ deep) ∧ name.length ≤ 30 ∧ (-9223372036854775808 ≤ n ∧ n ≤ 9223372036854775807) ∧ ∀ kids:List PE,kids.length=need → (K=14 → ∀ x ∈ kids,G8 x=true) → (K=9 → ∀ x,kids[0]? = some x → G8 x=true) → Shape K n name off kids
theorem sK (d:Int):∀ (l:List PE) (m:Int),m ≤ d → (∀ e ∈ l,Lb e ≤ d) → Pu l m ≤ d
 | [],m,h,_=>h
 | e :: r,m,h,hk=>by
  show Pu r (if Lb e > m then Lb e else m) ≤ d
  refine sK d r _ ?_ (fun x hx=>hk x (List.mem_cons_of_mem _ hx))
  split
  ·exact hk e (List.mem_cons_self ..)
  ·exact h
theorem pB (s:Nat):∀ (l:List PE),(∀ e ∈ l,Gj e ≤ s) → Gj.sizeL l ≤ l.length * s
 | [],_=>by rw [Ji]; omega
 | e :: r,h=>by
  rw [Ge,List.length_cons,Nat.add_mul]
  have:=h e (List.mem_cons_self ..)
  have:=pB s r (fun x hx=>h x (List.mem_cons_of_mem _ hx))
  omega
-- loads and stores,cell by cell
def Z2 (c:Option Cell) (k:Nat):Option AV:=match c with
 | some (.box cs)=>cs[k]?
 | _=>none
theorem Es (cs:List AV) (k:Nat):Z2 (some (.box cs)) k=cs[k]?:=_root_.id rfl
theorem qS {t:TypeId} (ha:Fm Tryz.prog t=some false) (S:St) (p k:Nat):C3 Tryz.prog S t (.ptr p k)=Z2 (S.mem.get p) k:=by
 unfold C3 Dr Z2
 simp only [ha]
 cases h:S.mem.get p with
 | none=>simp only [h]
 | some c =>
  cases c with
  | box cs =>
   simp only [h]
   by_cases hk:k ≤ cs.length
   ·rw [if_pos hk]
    simp only
    cases hd:cs.drop k with
    | nil =>
     have hl:=congrArg List.length hd
     simp at hl
     rw [List.getElem?_eq_none (by omega)]; rfl
    | cons a r =>
     have h0:(cs.drop k)[0]? = some a:=by rw [hd]; rfl
     rw [List.getElem?_drop,Nat.add_zero] at h0
     rw [h0]; rfl
   ·rw [if_neg hk,List.getElem?_eq_none (by omega)]
  | tip m=>simp only [h]
  | mp es=>simp only [h]
theorem Sh (S:St) (p k:Nat):C3 Tryz.prog S 2 (.ptr p k)=Z2 (S.mem.get p) k:=qS (by kernel_rfl) S p k
theorem L9 (S:St) (p k:Nat):C3 Tryz.prog S 3 (.ptr p k)=Z2 (S.mem.get p) k:=qS (by kernel_rfl) S p k
theorem ldc4 (S:St) (p k:Nat):C3 Tryz.prog S 4 (.ptr p k)=Z2 (S.mem.get p) k:=qS (by kernel_rfl) S p k
theorem qW (S:St) (p k:Nat):C3 Tryz.prog S 22 (.ptr p k)=Z2 (S.mem.get p) k:=qS (by kernel_rfl) S p k
theorem szc2:Fo Tryz.prog 2=some 1:=by kernel_rfl
theorem szc3:Fo Tryz.prog 3=some 1:=by kernel_rfl
theorem szc4:Fo Tryz.prog 4=some 1:=by kernel_rfl
theorem szc9:Fo Tryz.prog 9=some 1:=by kernel_rfl
theorem szc22:Fo Tryz.prog 22=some 1:=by kernel_rfl
theorem Oq {t:TypeId} (hs:Fo Tryz.prog t=some 1) (S:St) (p k:Nat) (x:AV) (cs:List AV) (hx:x.one=true) (hm:S.mem.get p=some (.box cs)) (hk:k < cs.length):C7 Tryz.prog S t (.ptr p k) x=some (S.put p (cs.set k x)):=by
 have hn:x.noTup=true:=by cases x <;> first | rfl | cases hx
 have hc:x.cells=[x]:=by cases x <;> first | rfl | cases hx
 unfold C7
 simp only [hm,hs,hn,hc,List.length_cons,List.length_nil,Nat.zero_add,Al,Bool.true_and]
 rw [if_pos (decide_eq_true (by omega))]
 have:cs.take k ++ [x] ++ cs.drop (k + 1)=cs.set k x:=by
  rw [List.set_eq_take_append_cons_drop,if_pos hk,List.append_assoc]; rfl
 rw [this]; rfl
theorem bld24r (k a n:Int) (b:Bool):Ho Tryz.prog 24 [(0,.v (.int .i64 k)),(1,.v (.int .i64 a)),(2,.v (.int .i64 n)),(4,.v (.bool b))]=some (.agg (L8 k a n ⟨#[]⟩ b .nils)):=by kernel_rfl
theorem bld24c (k a:Nat) (n:Int):Ho Tryz.prog 24 [(0,.v (.int .i64 (k:Int))),(1,.v (.int .i64 (a:Int))),(2,.v (.int .i64 n))]=some (.agg (exC k a n [] false .nils)):=by kernel_rfl
theorem bld24h (k:Int) (a:Nat):Ho Tryz.prog 24 [(0,.v (.int .i64 k)),(1,.v (.int .i64 (a:Int)))]=some (.agg [.v (.int .i64 k),D0 a,.v (.int .i64 0),Bp [],.v (.bool false),.nils]):=by kernel_rfl
theorem row22 {zs:List AV} (h:zs.length=6):Dv Tryz.prog 22 1 [(0,.agg zs)]=some (.sl 1 0 6 [.agg zs]):=by
 obtain ⟨z,hz⟩:∃ z,Mb Tryz.prog 24=some z:=Option.isSome_iff_exists.1 (by kernel_rfl)
 simp [Dv,el22,sz24,hz,AV.noTup,AV.cells,h]
theorem app22 (S:St) (a b:AV):Hu E8 S 22 22 a b=Fk Tryz.prog S 22 22 a b:=rfl
theorem i24:(Tryz.prog.info? 24).map (fun i=>(i.zero.map (·.cells.size),i.size))=some (some 6,6):=by kernel_rfl
theorem i24b:((Tryz.prog.info? 24).map (fun i=>decide (i.bytes ≤ 1000)))=some true:=by kernel_rfl
def Sd (lo:Nat) (S:St) (v:AV) (es:List AV):Prop:=(v=.nils ∧ es=[]) ∨ ∃ k,v=.sl (k + 2) 0 6 es ∧ S.mem.get (k + 2)=some (.tip (es.length * 6)) ∧ k + 2 < S.next ∧ lo ≤ k + 2
def KeepBx (S S':St):Prop:=S.next ≤ S'.next ∧ ∀ id cs,id < S.next → S.mem.get id=some (.box cs) → S'.mem.get id=some (.box cs)
theorem append_s {lo:Nat} {S:St} (h2:2 ≤ S.next) (hlo:lo ≤ S.next) {v:AV} {es:List AV} {zs:List AV} (h:Sd lo S v es) (hz:zs.length=6) (hl:es.length ≤ 1000) :
  ∃ v' S',Fk Tryz.prog S 22 22 v (.sl 1 0 6 [.agg zs])=some (v',S') ∧ Sd lo S' v' (es ++ [.agg zs]) ∧ KeepBx S S' ∧ ∀ id,id < lo → S'.mem.get id=S.mem.get id:=by
 obtain ⟨i,hi⟩:∃ i,Tryz.prog.info? 24=some i:=Option.isSome_iff_exists.1 (by kernel_rfl)
 have h1:=i24
 have h3:=i24b
 rw [hi] at h1 h3
 simp only [Option.map_some,Option.some.injEq,Prod.mk.injEq] at h1 h3
 obtain ⟨hz0,hz1⟩:=h1
 have hb:=of_decide_eq_true h3
 obtain ⟨z,hzz,hzs⟩:∃ z,i.zero=some z ∧ z.cells.size=6:=by
  cases hq:i.zero with
  | none=>rw [hq] at hz0; cases hz0
  | some z=>rw [hq] at hz0; simp at hz0; exact ⟨z,rfl,hz0⟩
 have hsrc:L7 Tryz.prog 22 6 (.sl 1 0 6 [.agg zs])=some [.agg zs]:=by simp [L7,oR]
 have b1:i.bytes ≤ 140737488355328:=by omega
 have b2:(es.length + 1) * i.bytes ≤ 140737488355328:=by
  have:=Nat.mul_le_mul (show es.length + 1 ≤ 1001 by omega) hb
  omega
 have b3:es.length + 1 ≤ 9223372036854775807:=by omega
 have hn:S.next - 2 + 2=S.next:=by omega
 rcases h with ⟨rfl,rfl⟩ | ⟨k,rfl,h5,h6,h7⟩
 ·refine ⟨.sl S.next 0 6 [.agg zs],S.grown 1 6,?_,.inr ⟨S.next - 2,by rw [hn]; rfl,?_,?_,by rw [hn]; exact hlo⟩,⟨Nat.le_succ _,fun id cs hid e=>?_⟩,fun id hid=>?_⟩
  ·simp [Fk,el22,hi,hzz,hzs,hz1,hsrc,b1]
  ·rw [hn]
   show ((S.kill 1).mem.set S.next _).get S.next=_
   rw [T.get_set,if_pos rfl]; rfl
  ·show S.next - 2 + 2 < S.next + 1; omega
  ·show ((S.kill 1).mem.set S.next _).get id=_
   rw [T.get_set,if_neg (by omega)]; exact e
  ·show ((S.kill 1).mem.set S.next _).get id=_
   rw [T.get_set,if_neg (by omega)]; rfl
 ·refine ⟨.sl S.next 0 6 (es ++ [.agg zs]),S.grown (k + 2) ((es ++ [AV.agg zs]).length * 6),?_,.inr ⟨S.next - 2,by rw [hn],?_,?_,by rw [hn]; exact hlo⟩,⟨Nat.le_succ _,fun id cs hid e=>?_⟩,fun id hid=>?_⟩
  ·simp [Fk,el22,hi,hzz,hzs,hz1,hsrc,N8,h5,b2,b3]
  ·rw [hn]
   show ((S.kill (k + 2)).mem.set S.next _).get S.next=_
   rw [T.get_set,if_pos rfl]
  ·show S.next - 2 + 2 < S.next + 1; omega
  ·show ((S.mem.set (k + 2) none).set S.next _).get id=_
   rw [T.get_set,if_neg (by omega),T.get_set,if_neg]
   ·exact e
   ·intro hk; rw [hk,h5] at e; cases e
  ·show ((S.mem.set (k + 2) none).set S.next _).get id=_
   rw [T.get_set,if_neg (by omega),T.get_set,if_neg (by omega)]
-- bits of an int64
theorem and2_eq (F:Operand → Value) (dst:Option Tmp) (k:Tmp) (c:Int) (ty ty2:TypeId) (pos:String) (af:Array Edge) (gd:Option (Nat × Bool)):execOp F { dst:=dst,op:=.binOp .and 2 (.tmp k) (.const (.int .i64 c)) ty2,type:=ty,pos:=pos,after:=af,guard:=gd }=execOp (mT (F (.tmp k)) (F (.const (.int .i64 c)))) { dst:=none,op:=.binOp .and 2 (.tmp 0) (.tmp 1) 2,type:=ty,pos := "", after:=#[],guard:=none }:=by kernel_rfl
theorem and2_val (a c:Int) (ty:TypeId):P3 Tryz.prog 4000 (execOp (mT (.int .i64 a) (.int .i64 c)) { dst:=none,op:=.binOp .and 2 (.tmp 0) (.tmp 1) 2,type:=ty,pos := "", after:=#[],guard:=none })=some (.int .i64 (bits .and .i64 a c)):=by kernel_rfl
theorem kC (f:T AV) (S:St) (dst:Option Tmp) (k:Tmp) (c x:Int) (ty ty2:TypeId) (pos:String) (af:Array Edge) (gd:Option (Nat × Bool)) :
  Ma Tryz.prog G7 f S { dst:=dst,op:=.binOp .and 2 (.tmp k) (.const (.int .i64 c)) ty2,type:=ty,pos:=pos,after:=af,guard:=gd } .and 2 (.v (.int .i64 x)) (.v (.int .i64 c))=andO (eH Tryz.prog G7 f S { dst:=dst,op:=.binOp .and 2 (.tmp k) (.const (.int .i64 c)) ty2,type:=ty,pos:=pos,after:=af,guard:=gd } .and 2 (.v (.int .i64 x)) (.v (.int .i64 c))) S c (f.get k):=by
 unfold andO
 split
 ·rename_i a h1
  have hg1:Dm G7 f (.tmp k)=some (.int .i64 a):=by unfold Dm; simp only [Ba,h1]; rfl
  have hg2:Dm G7 f (.const (.int .i64 c))=some (.int .i64 c):=rfl
  have h0:Lh Tryz.prog .and 2 (.v (.int .i64 x)) (.v (.int .i64 c))=none:=rfl
  unfold Ma
  rw [h0]
  simp only
  unfold ground
  have hall:((Op.binOp .and 2 (.tmp k) (.const (.int .i64 c)) ty2:Op).operands.toList.all fun x=>(Dm G7 f x).isSome)=true:=by
   show ([Operand.tmp k,Operand.const (.int .i64 c)].all fun x=>(Dm G7 f x).isSome)=true
   simp only [List.all_cons,List.all_nil,hg1,hg2,Option.isSome_some,Bool.and_self]
  refine (if_pos hall).trans ?_
  rw [and2_eq]
  have e1:(Dm G7 f (.tmp k)).getD undef=.int .i64 a:=by rw [hg1]; rfl
  have e2:(Dm G7 f (.const (.int .i64 c))).getD undef=.int .i64 c:=by rw [hg2]; rfl
  simp only [e1,e2,and2_val]
  rfl
 ·rfl
theorem fb_mul (k:IntKind) (x y:Int):Ea .mul (.v (.int k x)) (.v (.int k y))=some (.v (.int k (k.wrap (x * y)))):=by simp [Ea]
theorem fb_sub (k:IntKind) (x y:Int):Ea .sub (.v (.int k x)) (.v (.int k y))=some (.v (.int k (k.wrap (x - y)))):=by simp [Ea]
theorem fA (k pos:Nat) (n:Int) (h:k=1 ∧ (-9223372036854775808 ≤ n ∧ n ≤ 9223372036854775807) ∨ k=2 ∧ (n=0 ∨ n=1)):SomeE 1 (.mk k pos n [] false []) ∧ G8 (.mk k pos n [] false [])=true ∧ RepE (.agg (exC k pos n [] false .nils)) (.mk k pos n [] false []):=by
 have hn:-9223372036854775808 ≤ n ∧ n ≤ 9223372036854775807:=by omega
 refine ⟨⟨.mk _ _ _ _ _ _ ?_ (fun e he=>by cases he),.mk _ _ _ _ _ _ hn (by simp) (fun e he=>by cases he),.mk _ _ _ _ _ _ (by simp) (fun e he=>by cases he),by rw [Iz,Ji]; decide,by show IntKind.i64.wrap (0 + 1) ≤ _; rw [Kq _ (by omega)]; decide⟩,?_,.mk _ _ _ _ _ _ _ .nil⟩
 ·rcases h with ⟨rfl,h⟩ | ⟨rfl,h⟩
  ·exact .num n h
  ·exact .truth n h
 ·rcases h with ⟨rfl,h⟩ | ⟨rfl,h⟩ <;> rfl
end Go.Ax
