/- Bw -/
import Derived.Test.YtjgknelmjdallaaGreatDoorBkG24
set_option linter.unusedVariables false
set_option linter.unusedSimpArgs false
noncomputable section
namespace Go.Ax
open Go.RowKit Go.Proofs
set_option maxRecDepth 100000
theorem yK {kv:AV} {x:PE} (h:RepK kv [x]):∃ tok off ys,kv=.sl tok off 6 [.agg ys] ∧ RepE (.agg ys) x ∧ ys.length=6:=by
 cases h with
 | row tok off es _ h=>cases h with
  | cons a _ r _ ha h2=>cases h2; obtain ⟨xs,rfl,hl⟩:=ha.agg; exact ⟨_,_,xs,rfl,ha,hl⟩
theorem yJ {kv:AV} {x y:PE} (h:RepK kv [x,y]):∃ tok off ys zs,kv=.sl tok off 6 [.agg ys,.agg zs] ∧ (RepE (.agg ys) x ∧ ys.length=6) ∧ RepE (.agg zs) y ∧ zs.length=6:=by
 cases h with
 | row tok off es _ h=>cases h with
  | cons a _ r _ ha h2=>cases h2 with
   | cons b _ r _ hb h3 =>
    cases h3; obtain ⟨xs,rfl,hl⟩:=ha.agg; obtain ⟨zs,rfl,hl2⟩:=hb.agg; exact ⟨_,_,xs,zs,rfl,⟨ha,hl⟩,hb,hl2⟩
theorem repK3 {kv:AV} {x y z:PE} (h:RepK kv [x,y,z]):∃ tok off ys zs us,kv=.sl tok off 6 [.agg ys,.agg zs,.agg us] ∧ (RepE (.agg ys) x ∧ ys.length=6) ∧ (RepE (.agg zs) y ∧ zs.length=6) ∧ RepE (.agg us) z ∧ us.length=6:=by
 cases h with
 | row tok off es _ h=>cases h with
  | cons a _ r _ ha h2=>cases h2 with
   | cons b _ r _ hb h3=>cases h3 with
    | cons c _ r _ hc h4 =>
     cases h4; obtain ⟨xs,rfl,hl⟩:=ha.agg; obtain ⟨zs,rfl,hl2⟩:=hb.agg; obtain ⟨us,rfl,hl3⟩:=hc.agg; exact ⟨_,_,xs,zs,us,rfl,⟨ha,hl⟩,⟨hb,hl2⟩,hc,hl3⟩
set_option maxHeartbeats 16000000 in
theorem ref_k1 {pos:Nat} {n:Int} {name:List UInt8} {off:Bool} {kv:AV}  (hk:RepK kv []) (hnm:name.length ≤ 30) (S:St) (hn2:2 ≤ S.next) (hb:-9223372036854775808 ≤ n ∧ n ≤ 9223372036854775807):WC E8 14 [.agg (exC 1 pos n name off kv)] S (fun r=>∃ S',r=.ret (Bp (Dz (.mk 1 pos n name off []))) S' ∧ Eg S S'):=by
 refine Dx Tryz.f14 (by kernel_rfl) (by kernel_rfl) (by kernel_rfl) (show (_:Nat) ≤ _ from by show (_:Nat) ≤ _; simp [Tryz.f14]) ?_
 obtain ⟨fn14,hf14⟩:=Lg
 obtain ⟨fn40,hf40⟩:=Lz
 obtain ⟨fn41,hf41⟩:=Mr
 obtain ⟨fn42,hf42⟩:=Ly
 obtain ⟨fn43,hf43⟩:=Mq
 have g1:=Db S (exC 1 pos n name off kv)
 have k1:=C4 S (exC 1 pos n name off kv)
 generalize hS1:S.newBox (exC 1 pos n name off kv)=S1 at g1 k1
 have e1:(((1:Nat):Int) == 1)=true:=rfl
 have a1:=Kf g1
 have b1:=E3 g1
 have c1:=Ga g1
 have d1:=Jn g1
 have u1:=lxN g1
 have l1:=I3 g1 rfl
 simp only [Br,A6,Ch,Bl,Bq,Bt,Bw,A4,B0,Bs,Bz,Bh,A7,Bj,Cb,Bi,Ci,A5,Bc,Ba,Cc,A0,A1,Bo,B5,ofOpt,Bb,Bv,Bg,By,Bf,Cl,B7,Nat.reduceLT,Nat.reduceEqDiff,Aa,Ab,Ac,Ae,Aj,Ak,Am,D6,Dq,Tryz.f14,hS1,Cd,Ce,Eh,E4,Fd,Js,Gf,e1,a1,b1,c1,d1,u1,l1,hf40,hf42]
 refine WC.mono (sI _ n (Nat.lt_succ_self _) hb S1) ?_
 rintro _ rfl
 simp only [Bw,A4,B0,Bz,Bh,A7,Bj,Bi,Cz,A5,Bc,Ba,A0,A1,ofOpt,Bg,By,Bf,Cl,Nat.reduceLT,Nat.reduceEqDiff,Aa,Ab,Ac]
 exact ⟨_,rfl,k1⟩
set_option maxHeartbeats 16000000 in
theorem ref_k2 {pos:Nat} {n:Int} {name:List UInt8} {off:Bool} {kv:AV}  (hk:RepK kv []) (hnm:name.length ≤ 30) (S:St) (hn2:2 ≤ S.next) (hb:n=0 ∨ n=1):WC E8 14 [.agg (exC 2 pos n name off kv)] S (fun r=>∃ S',r=.ret (Bp (Dz (.mk 2 pos n name off []))) S' ∧ Eg S S'):=by
 refine Dx Tryz.f14 (by kernel_rfl) (by kernel_rfl) (by kernel_rfl) (show (_:Nat) ≤ _ from by show (_:Nat) ≤ _; simp [Tryz.f14]) ?_
 obtain ⟨fn14,hf14⟩:=Lg
 obtain ⟨fn40,hf40⟩:=Lz
 obtain ⟨fn41,hf41⟩:=Mr
 obtain ⟨fn42,hf42⟩:=Ly
 obtain ⟨fn43,hf43⟩:=Mq
 have g1:=Db S (exC 2 pos n name off kv)
 have k1:=C4 S (exC 2 pos n name off kv)
 generalize hS1:S.newBox (exC 2 pos n name off kv)=S1 at g1 k1
 have e1:(((2:Nat):Int) == 1)=false:=rfl
 have e2:(((2:Nat):Int) == 2)=true:=rfl
 have a1:=Kf g1
 have b1:=E3 g1
 have c1:=Ga g1
 have d1:=Jn g1
 have u1:=lxN g1
 have l1:=I3 g1 rfl
 rcases hb with rfl | rfl
 ·have en:((0:Int) == 1)=false:=rfl
  simp only [Br,A6,Ch,Bl,Bq,Bt,Bw,A4,B0,Bs,Bz,Bh,A7,Bj,Bi,Ci,Cg,A5,Bc,Ba,Cc,A0,A1,Bo,B5,ofOpt,Bb,Bv,Bg,By,Bf,Cl,B7,Nat.reduceLT,Nat.reduceEqDiff,Aa,Ab,Ac,Ae,Aj,Ak,Am,D6,Dq,Tryz.f14,hS1,Cd,Ce,Eh,E4,Fd,Js,Gf,e1,e2,a1,b1,c1,d1,u1,l1,en]
  exact ⟨_,rfl,k1⟩
 ·have en:((1:Int) == 1)=true:=rfl
  simp only [Br,A6,Ch,Bl,Bq,Bt,Bw,A4,B0,Bs,Bz,Bh,A7,Bj,Bi,Ci,Cg,A5,Bc,Ba,Cc,A0,A1,Bo,B5,ofOpt,Bb,Bv,Bg,By,Bf,Cl,B7,Nat.reduceLT,Nat.reduceEqDiff,Aa,Ab,Ac,Ae,Aj,Ak,Al,Am,D6,Dq,Tryz.f14,hS1,Cd,Ce,Eh,E4,Fd,Js,Gf,e1,e2,a1,b1,c1,d1,u1,l1]
  exact ⟨_,rfl,k1⟩
set_option maxHeartbeats 16000000 in
theorem ref_k3 {pos:Nat} {n:Int} {name:List UInt8} {off:Bool} {kv:AV}  (hk:RepK kv []) (hnm:name.length ≤ 30) (S:St) (hn2:2 ≤ S.next):WC E8 14 [.agg (exC 3 pos n name off kv)] S (fun r=>∃ S',r=.ret (Bp (Dz (.mk 3 pos n name off []))) S' ∧ Eg S S'):=by
 refine Dx Tryz.f14 (by kernel_rfl) (by kernel_rfl) (by kernel_rfl) (show (_:Nat) ≤ _ from by show (_:Nat) ≤ _; simp [Tryz.f14]) ?_
 obtain ⟨fn14,hf14⟩:=Lg
 obtain ⟨fn40,hf40⟩:=Lz
 obtain ⟨fn41,hf41⟩:=Mr
 obtain ⟨fn42,hf42⟩:=Ly
 obtain ⟨fn43,hf43⟩:=Mq
 have g1:=Db S (exC 3 pos n name off kv)
 have k1:=C4 S (exC 3 pos n name off kv)
 generalize hS1:S.newBox (exC 3 pos n name off kv)=S1 at g1 k1
 have e1:(((3:Nat):Int) == 1)=false:=rfl
 have e2:(((3:Nat):Int) == 2)=false:=rfl
 have e3:(((3:Nat):Int) == 3)=true:=rfl
 have a1:=Kf g1
 have b1:=E3 g1
 have c1:=Ga g1
 have d1:=Jn g1
 have u1:=lxN g1
 have l1:=I3 g1 rfl
 simp only [Br,A6,Ch,Bl,Bq,Bt,Bw,A4,B0,Bs,Bz,Bh,A7,Bj,Bi,Ci,Cg,A5,Bc,Ba,Cc,A0,A1,Bo,B5,ofOpt,Bb,Bv,Bg,By,Bf,Cl,B7,Nat.reduceLT,Nat.reduceEqDiff,Aa,Ab,Ac,Ae,Aj,Ak,Am,D6,Dq,Tryz.f14,hS1,Cd,Ce,Eh,E4,Fd,Js,Gf,e1,e2,e3,a1,b1,c1,d1,u1,l1]
 exact ⟨_,rfl,k1⟩
set_option maxHeartbeats 16000000 in
theorem ref_k5 {pos:Nat} {n:Int} {name:List UInt8} {off:Bool} {kv:AV} {x:PE} (hx:RefK x) (hk:RepK kv [x]) (hnm:name.length ≤ 30) (S:St) (hn2:2 ≤ S.next):WC E8 14 [.agg (exC 5 pos n name off kv)] S (fun r=>∃ S',r=.ret (Bp (Dz (.mk 5 pos n name off [x]))) S' ∧ Eg S S'):=by
 refine Dx Tryz.f14 (by kernel_rfl) (by kernel_rfl) (by kernel_rfl) (show (_:Nat) ≤ _ from by show (_:Nat) ≤ _; simp [Tryz.f14]) ?_
 obtain ⟨fn14,hf14⟩:=Lg
 obtain ⟨fn40,hf40⟩:=Lz
 obtain ⟨fn41,hf41⟩:=Mr
 obtain ⟨fn42,hf42⟩:=Ly
 obtain ⟨fn43,hf43⟩:=Mq
 have rf:=(RepE.mk 5 pos n name off kv _ hk).refl
 have rk:=hk.refl
 obtain ⟨tok,tof,y0,rfl,r0,z0⟩:=yK hk
 have w0:=r0.refl
 have v0:=Hq r0
 have p0:=fun S=>J5 S z0
 have g1:=Db S (exC 5 pos n name off (.sl tok tof 6 [.agg y0]))
 have k1:=C4 S (exC 5 pos n name off (.sl tok tof 6 [.agg y0]))
 have lt1:S.next < (S.newBox (exC 5 pos n name off (.sl tok tof 6 [.agg y0]))).next:=Nat.lt_succ_self _
 generalize hS1:S.newBox (exC 5 pos n name off (.sl tok tof 6 [.agg y0]))=S1 at g1 k1 lt1
 have n1:2 ≤ S1.next:=Nat.le_trans hn2 k1.1
 have e1:(((5:Nat):Int) == 1)=false:=rfl
 have e2:(((5:Nat):Int) == 2)=false:=rfl
 have e3:(((5:Nat):Int) == 3)=false:=rfl
 have e4:(((5:Nat):Int) == 4)=false:=rfl
 have e5:(((5:Nat):Int) == 5)=true:=rfl
 have t0:=hx.len
 have tk0_a:=Ki hx (4)
 have q0:=C5 ([110,111,116,32]) (kTe x 4) (by first | omega | (simp only [List.length_append,List.length_cons,List.length_nil]; omega))
 have a1:=Kf g1
 have b1:=E3 g1
 have c1:=Ga g1
 have d1:=Jn g1
 have u1:=lxN g1
 have l1:=I3 g1 rfl
 have bep0:Gr (.ep y0) (.ep y0)=true:=v0
 simp only [Br,A6,Ch,Bl,Bq,Bt,Bw,A4,B0,Bs,Bz,Bh,A7,Bj,Cb,Bi,Ci,Cg,A5,Bc,Ba,Cc,A0,A1,Bo,B5,ofOpt,Bb,Bv,Bg,By,Bf,Cl,B7,Nat.reduceLT,Nat.reduceEqDiff,Aa,Ab,Ac,Ae,Aj,Ak,Am,D6,Dq,Tryz.f14,hS1,Cd,Ce,Eh,E4,Fd,Js,Gf,Ht,e1,e2,e3,e4,e5,a1,b1,c1,d1,u1,l1,hf40,hf41,hf42,p0]
 refine WC.mono (Lf hx r0 (4) S1 n1) ?_
 rintro _ ⟨S2,rfl,k2⟩
 have g2:S2.mem.get S.next=some (.box (exC 5 pos n name off (.sl tok tof 6 [.agg y0]))):=(k2.2 _ lt1).trans g1
 have lt2:S.next < S2.next:=Nat.lt_of_lt_of_le lt1 k2.1
 have n2:2 ≤ S2.next:=Nat.le_trans n1 k2.1
 have a2:=Kf g2
 have b2:=E3 g2
 have c2:=Ga g2
 have d2:=Jn g2
 have u2:=lxN g2
 have l2:=I3 g2 rfl
 simp only [Bp]
 simp only [Bw,A4,B0,Bz,Bh,A7,Bj,Bi,Cz,A5,Bc,Ba,A0,A1,ofOpt,Bb,Bg,By,Bf,Cl,Nat.reduceLT,Nat.reduceEqDiff,Aa,Ab,Ac,Am,D6,Cy,q0]
 exact ⟨_,rfl,(k1).trans k2⟩
set_option maxHeartbeats 16000000 in
theorem ref_k7 {pos:Nat} {n:Int} {name:List UInt8} {off:Bool} {kv:AV} {x y z:PE} (hx:RefK x) (hy:RefK y) (hz:RefK z) (hk:RepK kv [x,y,z]) (hnm:name.length ≤ 30) (S:St) (hn2:2 ≤ S.next):WC E8 14 [.agg (exC 7 pos n name off kv)] S (fun r=>∃ S',r=.ret (Bp (Dz (.mk 7 pos n name off [x,y,z]))) S' ∧ Eg S S'):=by
 refine Dx Tryz.f14 (by kernel_rfl) (by kernel_rfl) (by kernel_rfl) (show (_:Nat) ≤ _ from by show (_:Nat) ≤ _; simp [Tryz.f14]) ?_
 obtain ⟨fn14,hf14⟩:=Lg
 obtain ⟨fn40,hf40⟩:=Lz
 obtain ⟨fn41,hf41⟩:=Mr
 obtain ⟨fn42,hf42⟩:=Ly
 obtain ⟨fn43,hf43⟩:=Mq
 have rf:=(RepE.mk 7 pos n name off kv _ hk).refl
 have rk:=hk.refl
 obtain ⟨tok,tof,y0,y1,y2,rfl,⟨r0,z0⟩,⟨r1,z1⟩,r2,z2⟩:=repK3 hk
 have w0:=r0.refl
 have v0:=Hq r0
 have p0:=fun S=>J5 S z0
 have w1:=r1.refl
 have v1:=Hq r1
 have p1:=fun S=>J5 S z1
 have w2:=r2.refl
 have v2:=Hq r2
 have p2:=fun S=>J5 S z2
 have g1:=Db S (exC 7 pos n name off (.sl tok tof 6 [.agg y0,.agg y1,.agg y2]))
 have k1:=C4 S (exC 7 pos n name off (.sl tok tof 6 [.agg y0,.agg y1,.agg y2]))
 have lt1:S.next < (S.newBox (exC 7 pos n name off (.sl tok tof 6 [.agg y0,.agg y1,.agg y2]))).next:=Nat.lt_succ_self _
 generalize hS1:S.newBox (exC 7 pos n name off (.sl tok tof 6 [.agg y0,.agg y1,.agg y2]))=S1 at g1 k1 lt1
 have n1:2 ≤ S1.next:=Nat.le_trans hn2 k1.1
 have e1:(((7:Nat):Int) == 1)=false:=rfl
 have e2:(((7:Nat):Int) == 2)=false:=rfl
 have e3:(((7:Nat):Int) == 3)=false:=rfl
 have e4:(((7:Nat):Int) == 4)=false:=rfl
 have e5:(((7:Nat):Int) == 5)=false:=rfl
 have e6:(((7:Nat):Int) == 6)=false:=rfl
 have e7:(((7:Nat):Int) == 7)=true:=rfl
 have t0:=hx.len
 have t1:=hy.len
 have t2:=hz.len
 have tk0_a:=Ki hx (0)
 have tk1_a:=Ki hy (0)
 have tk2_a:=Ki hz (0)
 have q0:=C5 ([105,102,32]) (kTe x 0) (by first | omega | (simp only [List.length_append,List.length_cons,List.length_nil]; omega))
 have q1:=C5 (([105,102,32]) ++ kTe x 0) ([32,116,104,101,110,32]) (by first | omega | (simp only [List.length_append,List.length_cons,List.length_nil]; omega))
 have q2:=C5 ((([105,102,32]) ++ kTe x 0) ++ [32,116,104,101,110,32]) (kTe y 0) (by first | omega | (simp only [List.length_append,List.length_cons,List.length_nil]; omega))
 have q3:=C5 (((([105,102,32]) ++ kTe x 0) ++ [32,116,104,101,110,32]) ++ kTe y 0) ([32,101,108,115,101,32]) (by first | omega | (simp only [List.length_append,List.length_cons,List.length_nil]; omega))
 have q4:=C5 ((((([105,102,32]) ++ kTe x 0) ++ [32,116,104,101,110,32]) ++ kTe y 0) ++ [32,101,108,115,101,32]) (kTe z 0) (by first | omega | (simp only [List.length_append,List.length_cons,List.length_nil]; omega))
 have a1:=Kf g1
 have b1:=E3 g1
 have c1:=Ga g1
 have d1:=Jn g1
 have u1:=lxN g1
 have l1:=I3 g1 rfl
 have bep0:Gr (.ep y0) (.ep y0)=true:=v0
 have bep1:Gr (.ep y1) (.ep y1)=true:=v1
 have bep2:Gr (.ep y2) (.ep y2)=true:=v2
 simp only [Br,A6,Ch,Bl,Bq,Bt,Bw,A4,B0,Bs,Bz,Bh,A7,Bj,Bi,Ci,Cg,A5,Bc,Ba,Cc,A0,A1,Bo,B5,ofOpt,Bb,Bv,Bg,By,Bf,Cl,B7,Nat.reduceLT,Nat.reduceEqDiff,Aa,Ab,Ac,Ae,Aj,Ak,Am,D6,Dq,Tryz.f14,hS1,Cd,Ce,Eh,E4,Fd,Js,Gf,Ht,e1,e2,e3,e4,e5,e6,e7,a1,b1,c1,d1,u1,l1]
 refine G4 [(0,true),(1,true),(2,true),(3,true),(7,true),(8,true),(9,true),(10,true),(14,true),(15,true),(16,true),(17,true),(4,true),(17,false),(15,false),(10,false),(8,false),(5,true),(6,true),(11,true),(17,false),(15,false),(12,true),(13,true),(18,true),(19,true),(20,true)] (by kernel_rfl) (by kernel_rfl) ?_
 simp only [A5,Bc,Ba,A0,A1,Bo,B5,ofOpt,Bb,Nat.reduceLT,Nat.reduceEqDiff,Aa,Ab,Ac,Af,Ag,Ah,Aj,Ak,Am,D6,Gf,Ht,Ui,idx22_2,a1,hf41,p0,p1,p2,Dj,C0,Df,Cn,Gu]
 refine WC.mono (Lf hx r0 (0) S1 n1) ?_
 rintro _ ⟨S2,rfl,k2⟩
 have g2:S2.mem.get S.next=some (.box (exC 7 pos n name off (.sl tok tof 6 [.agg y0,.agg y1,.agg y2]))):=(k2.2 _ lt1).trans g1
 have lt2:S.next < S2.next:=Nat.lt_of_lt_of_le lt1 k2.1
 have n2:2 ≤ S2.next:=Nat.le_trans n1 k2.1
 have a2:=Kf g2
 have b2:=E3 g2
 have c2:=Ga g2
 have d2:=Jn g2
 have u2:=lxN g2
 have l2:=I3 g2 rfl
 simp only [Bp]
 simp only [A5,Bc,Ba,A0,A1,Bo,B5,ofOpt,Bb,Nat.reduceLT,Nat.reduceEqDiff,Aa,Ab,Ac,Aj,Ak,Am,D6,Cy,a2,q0,q1,hf41,rk,w1,w2,p1,p2,Dj,Gn,C0,Df,Cn,Du,Dy,Ed]
 refine WC.mono (Lf hy r1 (0) S2 n2) ?_
 rintro _ ⟨S3,rfl,k3⟩
 have g3:S3.mem.get S.next=some (.box (exC 7 pos n name off (.sl tok tof 6 [.agg y0,.agg y1,.agg y2]))):=(k3.2 _ lt2).trans g2
 have lt3:S.next < S3.next:=Nat.lt_of_lt_of_le lt2 k3.1
 have n3:2 ≤ S3.next:=Nat.le_trans n2 k3.1
 have a3:=Kf g3
 have b3:=E3 g3
 have c3:=Ga g3
 have d3:=Jn g3
 have u3:=lxN g3
 have l3:=I3 g3 rfl
 simp only [Bp]
 simp only [A5,Bc,Ba,A0,A1,Bo,B5,ofOpt,Bb,Nat.reduceLT,Nat.reduceEqDiff,Aa,Ab,Ac,Aj,Ak,Am,D6,Cy,a3,q2,q3,hf41,rk,w2,p2,Dj,Gn,C0,Df,Cn,Du,Dy,Ed]
 refine WC.mono (Lf hz r2 (0) S3 n3) ?_
 rintro _ ⟨S4,rfl,k4⟩
 have g4:S4.mem.get S.next=some (.box (exC 7 pos n name off (.sl tok tof 6 [.agg y0,.agg y1,.agg y2]))):=(k4.2 _ lt3).trans g3
 have lt4:S.next < S4.next:=Nat.lt_of_lt_of_le lt3 k4.1
 have n4:2 ≤ S4.next:=Nat.le_trans n3 k4.1
 have a4:=Kf g4
 have b4:=E3 g4
 have c4:=Ga g4
 have d4:=Jn g4
 have u4:=lxN g4
 have l4:=I3 g4 rfl
 simp only [Bp]
 simp only [Bw,A4,B0,Bz,A5,Bc,Ba,A0,A1,ofOpt,Bg,By,Bf,Cl,Nat.reduceLT,Nat.reduceEqDiff,Aa,Ab,Ac,Am,D6,Cy,q4,Ew,Dj,C0,Cn,Du,D9]
 exact ⟨_,rfl,(((k1).trans k2).trans k3).trans k4⟩
set_option maxHeartbeats 16000000 in
theorem ref_k8 {pos:Nat} {n:Int} {name:List UInt8} {off:Bool} {kv:AV} {x y:PE} (hx:RefK x) (hy:RefK y) (hk:RepK kv [x,y]) (hnm:name.length ≤ 30) (S:St) (hn2:2 ≤ S.next):WC E8 14 [.agg (exC 8 pos n name off kv)] S (fun r=>∃ S',r=.ret (Bp (Dz (.mk 8 pos n name off [x,y]))) S' ∧ Eg S S'):=by
 refine Dx Tryz.f14 (by kernel_rfl) (by kernel_rfl) (by kernel_rfl) (show (_:Nat) ≤ _ from by show (_:Nat) ≤ _; simp [Tryz.f14]) ?_
 obtain ⟨fn14,hf14⟩:=Lg
 obtain ⟨fn40,hf40⟩:=Lz
 obtain ⟨fn41,hf41⟩:=Mr
 obtain ⟨fn42,hf42⟩:=Ly
 obtain ⟨fn43,hf43⟩:=Mq
 have rf:=(RepE.mk 8 pos n name off kv _ hk).refl
 have rk:=hk.refl
 obtain ⟨tok,tof,y0,y1,rfl,⟨r0,z0⟩,r1,z1⟩:=yJ hk
 have w0:=r0.refl
 have v0:=Hq r0
 have p0:=fun S=>J5 S z0
 have w1:=r1.refl
 have v1:=Hq r1
 have p1:=fun S=>J5 S z1
 have g1:=Db S (exC 8 pos n name off (.sl tok tof 6 [.agg y0,.agg y1]))
 have k1:=C4 S (exC 8 pos n name off (.sl tok tof 6 [.agg y0,.agg y1]))
 have lt1:S.next < (S.newBox (exC 8 pos n name off (.sl tok tof 6 [.agg y0,.agg y1]))).next:=Nat.lt_succ_self _
 generalize hS1:S.newBox (exC 8 pos n name off (.sl tok tof 6 [.agg y0,.agg y1]))=S1 at g1 k1 lt1
 have n1:2 ≤ S1.next:=Nat.le_trans hn2 k1.1
 have e1:(((8:Nat):Int) == 1)=false:=rfl
 have e2:(((8:Nat):Int) == 2)=false:=rfl
 have e3:(((8:Nat):Int) == 3)=false:=rfl
 have e4:(((8:Nat):Int) == 4)=false:=rfl
 have e5:(((8:Nat):Int) == 5)=false:=rfl
 have e6:(((8:Nat):Int) == 6)=false:=rfl
 have e7:(((8:Nat):Int) == 7)=false:=rfl
 have e8:(((8:Nat):Int) == 8)=true:=rfl
 have t0:=hx.len
 have t1:=hy.len
 have tk0_a:=Ki hx (2)
 have tk1_a:=Ki hy (1)
 have q0:=C5 (kTe x 2) ([32,45,62,32]) (by first | omega | (simp only [List.length_append,List.length_cons,List.length_nil]; omega))
 have q1:=C5 ((kTe x 2) ++ [32,45,62,32]) (kTe y 1) (by first | omega | (simp only [List.length_append,List.length_cons,List.length_nil]; omega))
 have a1:=Kf g1
 have b1:=E3 g1
 have c1:=Ga g1
 have d1:=Jn g1
 have u1:=lxN g1
 have l1:=I3 g1 rfl
 have bep0:Gr (.ep y0) (.ep y0)=true:=v0
 have bep1:Gr (.ep y1) (.ep y1)=true:=v1
 simp only [Br,A6,Ch,Bl,Bq,Bt,Bw,A4,B0,Bs,Bz,Bh,A7,Bj,Bi,Ci,Cg,A5,Bc,Ba,Cc,A0,A1,Bo,B5,ofOpt,Bb,Bv,Bg,By,Bf,Cl,B7,Nat.reduceLT,Nat.reduceEqDiff,Aa,Ab,Ac,Ae,Aj,Ak,Am,D6,Dq,Tryz.f14,hS1,Cd,Ce,Eh,E4,Fd,Js,Gf,Ht,e1,e2,e3,e4,e5,e6,e7,e8,a1,b1,c1,d1,u1,l1]
 refine G4 [(0,true),(1,true),(2,true),(3,true),(6,true),(7,true),(8,true),(9,true),(4,true),(9,false),(7,false),(5,true),(10,true),(11,true),(12,true)] (by kernel_rfl) (by kernel_rfl) ?_
 simp only [A5,Bc,Ba,A0,A1,Bo,B5,ofOpt,Bb,Nat.reduceLT,Nat.reduceEqDiff,Aa,Ab,Ac,Af,Ag,Ah,Aj,Ak,Am,D6,Gf,Ht,Ui,a1,hf41,p0,p1,Dj,C0,Df,Cn,Gu]
 refine WC.mono (Lf hx r0 (2) S1 n1) ?_
 rintro _ ⟨S2,rfl,k2⟩
 have g2:S2.mem.get S.next=some (.box (exC 8 pos n name off (.sl tok tof 6 [.agg y0,.agg y1]))):=(k2.2 _ lt1).trans g1
 have lt2:S.next < S2.next:=Nat.lt_of_lt_of_le lt1 k2.1
 have n2:2 ≤ S2.next:=Nat.le_trans n1 k2.1
 have a2:=Kf g2
 have b2:=E3 g2
 have c2:=Ga g2
 have d2:=Jn g2
 have u2:=lxN g2
 have l2:=I3 g2 rfl
 simp only [Bp]
 simp only [A5,Bc,Ba,A0,A1,Bo,B5,ofOpt,Bb,Nat.reduceLT,Nat.reduceEqDiff,Aa,Ab,Ac,Aj,Ak,Am,D6,Cy,a2,q0,hf41,rk,w1,p1,Dj,Gn,C0,Df,Cn,Du,Dy,Ed]
 refine WC.mono (Lf hy r1 (1) S2 n2) ?_
 rintro _ ⟨S3,rfl,k3⟩
 have g3:S3.mem.get S.next=some (.box (exC 8 pos n name off (.sl tok tof 6 [.agg y0,.agg y1]))):=(k3.2 _ lt2).trans g2
 have lt3:S.next < S3.next:=Nat.lt_of_lt_of_le lt2 k3.1
 have n3:2 ≤ S3.next:=Nat.le_trans n2 k3.1
 have a3:=Kf g3
 have b3:=E3 g3
 have c3:=Ga g3
 have d3:=Jn g3
 have u3:=lxN g3
 have l3:=I3 g3 rfl
 simp only [Bp]
 simp only [Bw,A4,B0,Bz,A5,Bc,Ba,A0,A1,ofOpt,Bg,By,Bf,Cl,Nat.reduceLT,Nat.reduceEqDiff,Aa,Ab,Ac,Am,D6,Cy,q1,Ew,Dj,C0,Cn,Du,D9]
 exact ⟨_,rfl,((k1).trans k2).trans k3⟩
set_option maxHeartbeats 16000000 in
theorem ref_k9 {pos:Nat} {n:Int} {name:List UInt8} {off:Bool} {kv:AV} {x y:PE} (hx:RefK x) (hy:RefK y) (hk:RepK kv [x,y]) (hnm:name.length ≤ 30) (S:St) (hn2:2 ≤ S.next):WC E8 14 [.agg (exC 9 pos n name off kv)] S (fun r=>∃ S',r=.ret (Bp (Dz (.mk 9 pos n name off [x,y]))) S' ∧ Eg S S'):=by
 refine Dx Tryz.f14 (by kernel_rfl) (by kernel_rfl) (by kernel_rfl) (show (_:Nat) ≤ _ from by show (_:Nat) ≤ _; simp [Tryz.f14]) ?_
 obtain ⟨fn14,hf14⟩:=Lg
 obtain ⟨fn40,hf40⟩:=Lz
 obtain ⟨fn41,hf41⟩:=Mr
 obtain ⟨fn42,hf42⟩:=Ly
 obtain ⟨fn43,hf43⟩:=Mq
 have rf:=(RepE.mk 9 pos n name off kv _ hk).refl
 have rk:=hk.refl
 obtain ⟨tok,tof,y0,y1,rfl,⟨r0,z0⟩,r1,z1⟩:=yJ hk
 have w0:=r0.refl
 have v0:=Hq r0
 have p0:=fun S=>J5 S z0
 have w1:=r1.refl
 have v1:=Hq r1
 have p1:=fun S=>J5 S z1
 have g1:=Db S (exC 9 pos n name off (.sl tok tof 6 [.agg y0,.agg y1]))
 have k1:=C4 S (exC 9 pos n name off (.sl tok tof 6 [.agg y0,.agg y1]))
 have lt1:S.next < (S.newBox (exC 9 pos n name off (.sl tok tof 6 [.agg y0,.agg y1]))).next:=Nat.lt_succ_self _
 generalize hS1:S.newBox (exC 9 pos n name off (.sl tok tof 6 [.agg y0,.agg y1]))=S1 at g1 k1 lt1
 have n1:2 ≤ S1.next:=Nat.le_trans hn2 k1.1
 have e1:(((9:Nat):Int) == 1)=false:=rfl
 have e2:(((9:Nat):Int) == 2)=false:=rfl
 have e3:(((9:Nat):Int) == 3)=false:=rfl
 have e4:(((9:Nat):Int) == 4)=false:=rfl
 have e5:(((9:Nat):Int) == 5)=false:=rfl
 have e6:(((9:Nat):Int) == 6)=false:=rfl
 have e7:(((9:Nat):Int) == 7)=false:=rfl
 have e8:(((9:Nat):Int) == 8)=false:=rfl
 have e9:(((9:Nat):Int) == 9)=true:=rfl
 have t0:=hx.len
 have t1:=hy.len
 have tk0_a:=Ki hx (0)
 have tk1_a:=Ki hy (1)
 have q0:=C5 (kTe x 0) ([32,102,98,121,32]) (by first | omega | (simp only [List.length_append,List.length_cons,List.length_nil]; omega))
 have q1:=C5 ((kTe x 0) ++ [32,102,98,121,32]) (kTe y 1) (by first | omega | (simp only [List.length_append,List.length_cons,List.length_nil]; omega))
 have a1:=Kf g1
 have b1:=E3 g1
 have c1:=Ga g1
 have d1:=Jn g1
 have u1:=lxN g1
 have l1:=I3 g1 rfl
 have bep0:Gr (.ep y0) (.ep y0)=true:=v0
 have bep1:Gr (.ep y1) (.ep y1)=true:=v1
 simp only [Br,A6,Ch,Bl,Bq,Bt,Bw,A4,B0,Bs,Bz,Bh,A7,Bj,Bi,Ci,Cg,A5,Bc,Ba,Cc,A0,A1,Bo,B5,ofOpt,Bb,Bv,Bg,By,Bf,Cl,B7,Nat.reduceLT,Nat.reduceEqDiff,Aa,Ab,Ac,Ae,Aj,Ak,Am,D6,Dq,Tryz.f14,hS1,Cd,Ce,Eh,E4,Fd,Js,Gf,Ht,e1,e2,e3,e4,e5,e6,e7,e8,e9,a1,b1,c1,d1,u1,l1]
 refine G4 [(0,true),(1,true),(2,true),(3,true),(6,true),(7,true),(8,true),(9,true),(4,true),(9,false),(7,false),(5,true),(10,true),(11,true),(12,true)] (by kernel_rfl) (by kernel_rfl) ?_
 simp only [A5,Bc,Ba,A0,A1,Bo,B5,ofOpt,Bb,Nat.reduceLT,Nat.reduceEqDiff,Aa,Ab,Ac,Af,Ag,Ah,Aj,Ak,Am,D6,Gf,Ht,Ui,a1,hf41,p0,p1,Dj,C0,Df,Cn,Gu]
 refine WC.mono (Lf hx r0 (0) S1 n1) ?_
 rintro _ ⟨S2,rfl,k2⟩
 have g2:S2.mem.get S.next=some (.box (exC 9 pos n name off (.sl tok tof 6 [.agg y0,.agg y1]))):=(k2.2 _ lt1).trans g1
 have lt2:S.next < S2.next:=Nat.lt_of_lt_of_le lt1 k2.1
 have n2:2 ≤ S2.next:=Nat.le_trans n1 k2.1
 have a2:=Kf g2
 have b2:=E3 g2
 have c2:=Ga g2
 have d2:=Jn g2
 have u2:=lxN g2
 have l2:=I3 g2 rfl
 simp only [Bp]
 simp only [A5,Bc,Ba,A0,A1,Bo,B5,ofOpt,Bb,Nat.reduceLT,Nat.reduceEqDiff,Aa,Ab,Ac,Aj,Ak,Am,D6,Cy,a2,q0,hf41,rk,w1,p1,Dj,Gn,C0,Df,Cn,Du,Dy,Ed]
 refine WC.mono (Lf hy r1 (1) S2 n2) ?_
 rintro _ ⟨S3,rfl,k3⟩
 have g3:S3.mem.get S.next=some (.box (exC 9 pos n name off (.sl tok tof 6 [.agg y0,.agg y1]))):=(k3.2 _ lt2).trans g2
 have lt3:S.next < S3.next:=Nat.lt_of_lt_of_le lt2 k3.1
 have n3:2 ≤ S3.next:=Nat.le_trans n2 k3.1
 have a3:=Kf g3
 have b3:=E3 g3
 have c3:=Ga g3
 have d3:=Jn g3
 have u3:=lxN g3
 have l3:=I3 g3 rfl
 simp only [Bp]
 simp only [Bw,A4,B0,Bz,A5,Bc,Ba,A0,A1,ofOpt,Bg,By,Bf,Cl,Nat.reduceLT,Nat.reduceEqDiff,Aa,Ab,Ac,Am,D6,Cy,q1,Ew,Dj,C0,Cn,Du,D9]
 exact ⟨_,rfl,((k1).trans k2).trans k3⟩
set_option maxHeartbeats 16000000 in
theorem ref_k10 {pos:Nat} {n:Int} {name:List UInt8} {off:Bool} {kv:AV} {x:PE} (hx:RefK x) (hk:RepK kv [x]) (hnm:name.length ≤ 30) (S:St) (hn2:2 ≤ S.next):WC E8 14 [.agg (exC 10 pos n name off kv)] S (fun r=>∃ S',r=.ret (Bp (Dz (.mk 10 pos n name off [x]))) S' ∧ Eg S S'):=by
 refine Dx Tryz.f14 (by kernel_rfl) (by kernel_rfl) (by kernel_rfl) (show (_:Nat) ≤ _ from by show (_:Nat) ≤ _; simp [Tryz.f14]) ?_
 obtain ⟨fn14,hf14⟩:=Lg
 obtain ⟨fn40,hf40⟩:=Lz
 obtain ⟨fn41,hf41⟩:=Mr
 obtain ⟨fn42,hf42⟩:=Ly
 obtain ⟨fn43,hf43⟩:=Mq
 have rf:=(RepE.mk 10 pos n name off kv _ hk).refl
 have rk:=hk.refl
 obtain ⟨tok,tof,y0,rfl,r0,z0⟩:=yK hk
 have w0:=r0.refl
 have v0:=Hq r0
 have p0:=fun S=>J5 S z0
 have g1:=Db S (exC 10 pos n name off (.sl tok tof 6 [.agg y0]))
 have k1:=C4 S (exC 10 pos n name off (.sl tok tof 6 [.agg y0]))
 have lt1:S.next < (S.newBox (exC 10 pos n name off (.sl tok tof 6 [.agg y0]))).next:=Nat.lt_succ_self _
 generalize hS1:S.newBox (exC 10 pos n name off (.sl tok tof 6 [.agg y0]))=S1 at g1 k1 lt1
 have n1:2 ≤ S1.next:=Nat.le_trans hn2 k1.1
 have e1:(((10:Nat):Int) == 1)=false:=rfl
 have e2:(((10:Nat):Int) == 2)=false:=rfl
 have e3:(((10:Nat):Int) == 3)=false:=rfl
 have e4:(((10:Nat):Int) == 4)=false:=rfl
 have e5:(((10:Nat):Int) == 5)=false:=rfl
 have e6:(((10:Nat):Int) == 6)=false:=rfl
 have e7:(((10:Nat):Int) == 7)=false:=rfl
 have e8:(((10:Nat):Int) == 8)=false:=rfl
 have e9:(((10:Nat):Int) == 9)=false:=rfl
 have e10:(((10:Nat):Int) == 10)=true:=rfl
 have t0:=hx.len
 have tk0_a:=Ki hx (8)
 have q0:=C5 ([112,114,101,32]) (kTe x 8) (by first | omega | (simp only [List.length_append,List.length_cons,List.length_nil]; omega))
 have a1:=Kf g1
 have b1:=E3 g1
 have c1:=Ga g1
 have d1:=Jn g1
 have u1:=lxN g1
 have l1:=I3 g1 rfl
 have bep0:Gr (.ep y0) (.ep y0)=true:=v0
 simp only [Br,A6,Ch,Bl,Bq,Bt,Bw,A4,B0,Bs,Bz,Bh,A7,Bj,Cb,Bi,Ci,Cg,A5,Bc,Ba,Cc,A0,A1,Bo,B5,ofOpt,Bb,Bv,Bg,By,Bf,Cl,B7,Nat.reduceLT,Nat.reduceEqDiff,Aa,Ab,Ac,Ae,Aj,Ak,Am,D6,Dq,Tryz.f14,hS1,Cd,Ce,Eh,E4,Fd,Js,Gf,Ht,e1,e2,e3,e4,e5,e6,e7,e8,e9,e10,a1,b1,c1,d1,u1,l1,hf40,hf41,hf42,p0]
 refine WC.mono (Lf hx r0 (8) S1 n1) ?_
 rintro _ ⟨S2,rfl,k2⟩
 have g2:S2.mem.get S.next=some (.box (exC 10 pos n name off (.sl tok tof 6 [.agg y0]))):=(k2.2 _ lt1).trans g1
 have lt2:S.next < S2.next:=Nat.lt_of_lt_of_le lt1 k2.1
 have n2:2 ≤ S2.next:=Nat.le_trans n1 k2.1
 have a2:=Kf g2
 have b2:=E3 g2
 have c2:=Ga g2
 have d2:=Jn g2
 have u2:=lxN g2
 have l2:=I3 g2 rfl
 simp only [Bp]
 simp only [Bw,A4,B0,Bz,Bh,A7,Bj,Bi,Cz,A5,Bc,Ba,A0,A1,ofOpt,Bb,Bg,By,Bf,Cl,Nat.reduceLT,Nat.reduceEqDiff,Aa,Ab,Ac,Am,D6,Cy,q0]
 exact ⟨_,rfl,(k1).trans k2⟩
set_option maxHeartbeats 16000000 in
theorem ref_k12 {pos:Nat} {n:Int} {name:List UInt8} {off:Bool} {kv:AV} {x y:PE} (hx:RefK x) (hy:RefK y) (hk:RepK kv [x,y]) (hnm:name.length ≤ 30) (S:St) (hn2:2 ≤ S.next):WC E8 14 [.agg (exC 12 pos n name off kv)] S (fun r=>∃ S',r=.ret (Bp (Dz (.mk 12 pos n name off [x,y]))) S' ∧ Eg S S'):=by
 refine Dx Tryz.f14 (by kernel_rfl) (by kernel_rfl) (by kernel_rfl) (show (_:Nat) ≤ _ from by show (_:Nat) ≤ _; simp [Tryz.f14]) ?_
 obtain ⟨fn14,hf14⟩:=Lg
 obtain ⟨fn40,hf40⟩:=Lz
 obtain ⟨fn41,hf41⟩:=Mr
 obtain ⟨fn42,hf42⟩:=Ly
 obtain ⟨fn43,hf43⟩:=Mq
 have rf:=(RepE.mk 12 pos n name off kv _ hk).refl
 have rk:=hk.refl
 obtain ⟨tok,tof,y0,y1,rfl,⟨r0,z0⟩,r1,z1⟩:=yJ hk
 have w0:=r0.refl
 have v0:=Hq r0
 have p0:=fun S=>J5 S z0
 have w1:=r1.refl
 have v1:=Hq r1
 have p1:=fun S=>J5 S z1
 have g1:=Db S (exC 12 pos n name off (.sl tok tof 6 [.agg y0,.agg y1]))
 have k1:=C4 S (exC 12 pos n name off (.sl tok tof 6 [.agg y0,.agg y1]))
 have lt1:S.next < (S.newBox (exC 12 pos n name off (.sl tok tof 6 [.agg y0,.agg y1]))).next:=Nat.lt_succ_self _
 generalize hS1:S.newBox (exC 12 pos n name off (.sl tok tof 6 [.agg y0,.agg y1]))=S1 at g1 k1 lt1
 have n1:2 ≤ S1.next:=Nat.le_trans hn2 k1.1
 have e1:(((12:Nat):Int) == 1)=false:=rfl
 have e2:(((12:Nat):Int) == 2)=false:=rfl
 have e3:(((12:Nat):Int) == 3)=false:=rfl
 have e4:(((12:Nat):Int) == 4)=false:=rfl
 have e5:(((12:Nat):Int) == 5)=false:=rfl
 have e6:(((12:Nat):Int) == 6)=false:=rfl
 have e7:(((12:Nat):Int) == 7)=false:=rfl
 have e8:(((12:Nat):Int) == 8)=false:=rfl
 have e9:(((12:Nat):Int) == 9)=false:=rfl
 have e10:(((12:Nat):Int) == 10)=false:=rfl
 have e11:(((12:Nat):Int) == 11)=false:=rfl
 have e12:(((12:Nat):Int) == 12)=true:=rfl
 have t0:=hx.len
 have t1:=hy.len
 have q0:=C5 ([109,101,114,103,101,32]) (name) (by first | omega | (simp only [List.length_append,List.length_cons,List.length_nil]; omega))
 have q1:=C5 (([109,101,114,103,101,32]) ++ name) ([32,40]) (by first | omega | (simp only [List.length_append,List.length_cons,List.length_nil]; omega))
 have q2:=C5 ((([109,101,114,103,101,32]) ++ name) ++ [32,40]) (Dz x) (by first | omega | (simp only [List.length_append,List.length_cons,List.length_nil]; omega))
 have q3:=C5 (((([109,101,114,103,101,32]) ++ name) ++ [32,40]) ++ Dz x) ([41,32,40]) (by first | omega | (simp only [List.length_append,List.length_cons,List.length_nil]; omega))
 have q4:=C5 ((((([109,101,114,103,101,32]) ++ name) ++ [32,40]) ++ Dz x) ++ [41,32,40]) (Dz y) (by first | omega | (simp only [List.length_append,List.length_cons,List.length_nil]; omega))
 have q5:=C5 (((((([109,101,114,103,101,32]) ++ name) ++ [32,40]) ++ Dz x) ++ [41,32,40]) ++ Dz y) ([41]) (by first | omega | (simp only [List.length_append,List.length_cons,List.length_nil]; omega))
 have a1:=Kf g1
 have b1:=E3 g1
 have c1:=Ga g1
 have d1:=Jn g1
 have u1:=lxN g1
 have l1:=I3 g1 rfl
 have bep0:Gr (.ep y0) (.ep y0)=true:=v0
 have bep1:Gr (.ep y1) (.ep y1)=true:=v1
 simp only [Br,A6,Ch,Bl,Bq,Bt,Bw,A4,B0,Bs,Bz,Bh,A7,Bj,Bi,Ci,Cg,A5,Bc,Ba,Cc,A0,A1,Bo,B5,ofOpt,Bb,Bv,Bg,By,Bf,Cl,B7,Nat.reduceLT,Nat.reduceEqDiff,Aa,Ab,Ac,Ae,Aj,Ak,Am,D6,Dq,Tryz.f14,hS1,Cd,Ce,Eh,E4,Fd,Js,Gf,Ht,e1,e2,e3,e4,e5,e6,e7,e8,e9,e10,e11,e12,a1,b1,c1,d1,u1,l1]
 refine G4 [(0,true),(1,true),(2,true),(3,true),(4,true),(5,true),(6,true),(7,true),(11,true),(12,true),(13,true),(14,true),(8,true),(14,false),(12,false),(1,false),(9,true),(10,true),(15,true),(1,false),(16,true),(17,true),(18,true)] (by kernel_rfl) (by kernel_rfl) ?_
 simp only [A5,Bc,Ba,A0,A1,Bo,B5,ofOpt,Bb,Nat.reduceLT,Nat.reduceEqDiff,Aa,Ab,Ac,Af,Ag,Ah,Aj,Ak,Am,D6,Cy,Fd,Gf,Ht,Ui,a1,b1,q0,q1,hf14,p0,p1,Dj,C0,Df,Cn,Gu]
 refine WC.mono (hx.ok y0 r0 S1 n1) ?_
 rintro _ ⟨S2,rfl,k2⟩
 have g2:S2.mem.get S.next=some (.box (exC 12 pos n name off (.sl tok tof 6 [.agg y0,.agg y1]))):=(k2.2 _ lt1).trans g1
 have lt2:S.next < S2.next:=Nat.lt_of_lt_of_le lt1 k2.1
 have n2:2 ≤ S2.next:=Nat.le_trans n1 k2.1
 have a2:=Kf g2
 have b2:=E3 g2
 have c2:=Ga g2
 have d2:=Jn g2
 have u2:=lxN g2
 have l2:=I3 g2 rfl
 simp only [Bp]
 simp only [A5,Bc,Ba,A0,A1,Bo,B5,ofOpt,Bb,Nat.reduceLT,Nat.reduceEqDiff,Aa,Ab,Ac,Aj,Ak,Am,D6,Cy,a2,b2,q2,q3,hf14,rk,w1,p1,Dj,Gn,C0,Df,Cn,Du,Dy,Ed,G3]
 refine WC.mono (hy.ok y1 r1 S2 n2) ?_
 rintro _ ⟨S3,rfl,k3⟩
 have g3:S3.mem.get S.next=some (.box (exC 12 pos n name off (.sl tok tof 6 [.agg y0,.agg y1]))):=(k3.2 _ lt2).trans g2
 have lt3:S.next < S3.next:=Nat.lt_of_lt_of_le lt2 k3.1
 have n3:2 ≤ S3.next:=Nat.le_trans n2 k3.1
 have a3:=Kf g3
 have b3:=E3 g3
 have c3:=Ga g3
 have d3:=Jn g3
 have u3:=lxN g3
 have l3:=I3 g3 rfl
 simp only [Bp]
 simp only [Bw,A4,B0,Bz,A5,Bc,Ba,A0,A1,ofOpt,Bb,Bg,By,Bf,Cl,Nat.reduceLT,Nat.reduceEqDiff,Aa,Ab,Ac,Am,D6,Cy,b3,q4,q5,Ew,Dj,Gn,C0,Cn,Du,D9,Dy,Ed,G3]
 exact ⟨_,by rw [show Dz (.mk 12 pos n name off [x,y])=(((((([109,101,114,103,101,32] ++ name) ++ [32,40]) ++ Dz x) ++ [41,32,40]) ++ Dz y) ++ [41]) by simp [Dz,Md,kT,De]],((k1).trans k2).trans k3⟩
end Go.Ax
