/- Rk -/
import Derived.Test.YtjgknelmjdallaaGreatDoorBkG20
import Derived.Shelf.Strings.Builder1
import Derived.Shelf.Strings.Builder2
import Derived.OneCell
import Derived.Lib.Hide
import Derived.ProofKit
import Derived.Tactics
import Derived.Deep.RegionHeld3
import Derived.Deep.DeepCutAuto
import Derived.Deep.RegionWith
import Derived.WalkSpells
import Derived.WalkKit
import Derived.OwnWalk
import Derived.IntWalk
import Derived.Test.YtjgknelmjdallaaGreatDoorBkG18
import Derived.Test.YtjgknelmjdallaaGreatDoorBkG19
import Derived.Test.YtjgknelmjdallaaGreatDoorBkG12
set_option linter.unusedVariables false
set_option linter.unusedSimpArgs false
noncomputable section
namespace Go.Ax
open Go.RowKit Go.Proofs
set_option maxRecDepth 100000
theorem fmt_w (n:Int) (h:-9223372036854775808 ≤ n ∧ n ≤ 9223372036854775807) (S:St):WC E6 48 [.v (.int .i64 n),.v (.int .i64 10)] S (fun r=>r=.ret (Bp (Lib.itoa n)) S):=by
 refine Lp (g:=F4 rV) (by kernel_rfl) ?_
 have e:rV [.v (.int .i64 n),.v (.int .i64 10)]=some (Bp (Lib.itoa n)):=by
  unfold rV
  simp only
  rw [if_pos h]
 show F4 rV _ S=_
 unfold F4
 rw [e]
theorem bA (name:List UInt8) (off:Bool):(Oy name off).length ≤ 10 + name.length:=by
 unfold Oy; split <;> simp only [List.length_append,List.length_cons,List.length_nil] <;> omega
theorem lB (b:Bool):Gr (.v (.bool b)) (.v (.bool b))=true:=by cases b <;> rfl
theorem jH:∀ (l:List PE),l.length ≤ Gj.sizeL l
 | []=>Nat.zero_le _
 | e :: r=>by
  have:=jH r
  rw [Ge]
  have h1:1 ≤ Gj e:=by cases e; rw [Iz]; omega
  simp; omega
theorem bW:∀ {l:List PE} {e:PE},e ∈ l → Gj e ≤ Gj.sizeL l
 | a :: r,e,h=>by
  rw [Ge]
  rcases List.mem_cons.1 h with rfl | h
  ·omega
  ·have:=bW h; omega
set_option maxHeartbeats 16000000 in
theorem tV:∀ {e:PE},Fit e → Gj e ≤ 1000000 → Ty e:=fun {e} hfit=>by
 induction hfit with
 | mk kind pos n name off kids hn hnm hkf ih =>
 intro hsz ys hr S hn2
 rw [Iz] at hsz
 have hok:∀ e ∈ kids,Ty e:=fun e he=>ih e he (by have:=bW he; omega)
 have hlen:kids.length ≤ 1000000:=by have:=jH kids; omega
 have hz:Mw (De kids) ≤ 1000000000:=by have:=T4 kids hkf; omega
 cases hr with
 | mk _ _ _ _ _ kv _ hk =>
 refine Dx Tryz.f17 (by kernel_rfl) (by kernel_rfl) (by kernel_rfl) (show (_:Nat) ≤ _ from by show (_:Nat) ≤ _; simp [Tryz.f17]) ?_
 obtain ⟨fn48,hf48⟩:=fn6_48
 obtain ⟨fn49,hf49⟩:=fn6_49
 obtain ⟨fn50,hf50⟩:=fn6_50
 obtain ⟨fn51,hf51⟩:=nK
 obtain ⟨fn52,hf52⟩:=fn6_52
 obtain ⟨fn53,hf53⟩:=fn6_53
 obtain ⟨fn54,hf54⟩:=fn6_54
 obtain ⟨fn55,hf55⟩:=fn6_55
 have g1:=Db S (exC kind pos n name off kv)
 have k1:=C4 S (exC kind pos n name off kv)
 have lt1:S.next < (S.newBox (exC kind pos n name off kv)).next:=Nat.lt_succ_self _
 generalize hS1:S.newBox (exC kind pos n name off kv)=S1 at g1 k1 lt1
 have l0:C3 Tryz.prog S1 30 (.ptr S.next 0)=some (.agg (exC kind pos n name off kv)):=ld30 g1 rfl
 have lk:=Jn g1
 have lN:=lxN g1
 have lName:=E3 g1
 have lOff:=Ga g1
 have n1:2 ≤ S1.next:=Nat.le_trans hn2 k1.1
 have rf:Om (exC kind pos n name off kv) (exC kind pos n name off kv)=true:=Hq (.mk kind pos n name off kv kids hk)
 have rf2:Gr (.agg (exC kind pos n name off kv)) (.agg (exC kind pos n name off kv))=true:=(RepE.mk kind pos n name off kv kids hk).refl
 by_cases h1:kind=1
 ·subst h1
  have e1:(((1:Nat):Int) == 1)=true:=rfl
  simp only [Br,A6,Ch,Bl,Bq,Bt,Bw,A4,B0,Bs,Bz,Bh,A7,Bj,Cb,Bi,Ci,A5,Bc,Ba,Cc,A0,A1,Bo,B5,ofOpt,Bb,Bv,Bg,By,Bf,Cl,B7,C2,Nat.reduceLT,Nat.reduceEqDiff,Aa,Ab,Ac,Ae,Aj,Ak,Am,E9,Dq,Tryz.f17,hS1,Cd,Ce,fe0,fe2,fe3,hf48,hf49,hf50,hf51,hf52,hf55,l0,lk,lN,lName,Bp,e1]
  refine WC.mono (fmt_w n hn S1) ?_
  rintro _ rfl
  simp only [Bw,A4,B0,Bz,Bh,A7,Bj,Bi,Cz,A5,Bc,Ba,A0,A1,ofOpt,Bg,By,Bf,Cl,Nat.reduceLT,Nat.reduceEqDiff,Aa,Ab,Ac,Bp]
  exact ⟨_,rfl,k1⟩
 by_cases h2:kind=2
 ·subst h2
  have e1:(((2:Nat):Int) == 1)=false:=rfl
  have e2:(((2:Nat):Int) == 2)=true:=rfl
  by_cases h0:n=0
  ·have en:(n != 0)=false:=by simp [h0]
   simp only [Br,A6,Ch,Bl,Bq,Bt,Bw,A4,B0,Bs,Bz,Bh,A7,Bj,Cb,Bi,Ci,Cg,A5,Bc,Ba,Cc,A0,A1,Bo,B5,ofOpt,Bb,Bv,Bg,By,Bf,Cl,B7,C2,Nat.reduceLT,Nat.reduceEqDiff,Aa,Ab,Ac,Ae,Aj,Ak,Am,E9,Dq,Tryz.f17,hS1,Cd,Ce,fe0,fe2,fe3,hf48,hf49,hf50,hf51,hf52,hf55,l0,lk,lN,lName,Bp,e1,e2,en]
   refine WC.mono (jS false S1) ?_
   rintro _ rfl
   simp only [Bw,A4,B0,Bz,Bh,A7,Bj,Bi,Cz,A5,Bc,Ba,A0,A1,ofOpt,Bg,By,Bf,Cl,Nat.reduceLT,Nat.reduceEqDiff,Aa,Ab,Ac,Am,Bp]
   exact ⟨_,by subst h0; rfl,k1⟩
  ·have en:(n != 0)=true:=by simp [h0]
   simp only [Br,A6,Ch,Bl,Bq,Bt,Bw,A4,B0,Bs,Bz,Bh,A7,Bj,Cb,Bi,Ci,Cg,A5,Bc,Ba,Cc,A0,A1,Bo,B5,ofOpt,Bb,Bv,Bg,By,Bf,Cl,B7,C2,Nat.reduceLT,Nat.reduceEqDiff,Aa,Ab,Ac,Ae,Aj,Ak,Am,E9,Dq,Tryz.f17,hS1,Cd,Ce,fe0,fe2,fe3,hf48,hf49,hf50,hf51,hf52,hf55,l0,lk,lN,lName,Bp,e1,e2,en]
   refine WC.mono (jS true S1) ?_
   rintro _ rfl
   simp only [Bw,A4,B0,Bz,Bh,A7,Bj,Bi,Cz,A5,Bc,Ba,A0,A1,ofOpt,Bg,By,Bf,Cl,Nat.reduceLT,Nat.reduceEqDiff,Aa,Ab,Ac,Bp]
   exact ⟨_,by rw [show Dz (.mk 2 pos n name off kids)=[116,114,117,101] from if_neg h0],k1⟩
 by_cases h3:kind=3
 ·subst h3
  have e1:(((3:Nat):Int) == 1)=false:=rfl
  have e2:(((3:Nat):Int) == 2)=false:=rfl
  have e3:(((3:Nat):Int) == 3)=true:=rfl
  simp only [Br,A6,Ch,Bl,Bq,Bt,Bw,A4,B0,Bs,Bz,Bh,A7,Bj,Cb,Bi,Ci,Cg,A5,Bc,Ba,Cc,A0,A1,Bo,B5,ofOpt,Bb,Bv,Bg,By,Bf,Cl,B7,C2,Nat.reduceLT,Nat.reduceEqDiff,Aa,Ab,Ac,Ae,Aj,Ak,Am,E9,Dq,Tryz.f17,hS1,Cd,Ce,fe0,fe2,fe3,hf48,hf49,hf50,hf51,hf52,hf55,l0,lk,lN,lName,Bp,e1,e2,e3]
  exact ⟨_,rfl,k1⟩
 by_cases h4:kind=4
 ·subst h4
  have e1:(((4:Nat):Int) == 1)=false:=rfl
  have e2:(((4:Nat):Int) == 2)=false:=rfl
  have e3:(((4:Nat):Int) == 3)=false:=rfl
  have e4:(((4:Nat):Int) == 4)=true:=rfl
  simp only [Br,A6,Ch,Bl,Bq,Bt,Bw,A4,B0,Bs,Bz,Bh,A7,Bj,Cb,Bi,Ci,Cg,A5,Bc,Ba,Cc,A0,A1,Bo,B5,ofOpt,Bb,Bv,Bg,By,Bf,Cl,B7,C2,Nat.reduceLT,Nat.reduceEqDiff,Aa,Ab,Ac,Ae,Aj,Ak,Am,E9,Dq,Tryz.f17,hS1,Cd,Ce,fe0,fe2,fe3,hf48,hf49,hf50,hf51,hf52,hf55,l0,lk,lN,lName,Bp,e1,e2,e3,e4]
  refine WC.mono (neg_w (kind:=4) (pos:=pos) (n:=n) (name:=name) (off:=off) hk hlen hok hz S1 n1) ?_
  rintro _ ⟨S2,rfl,k2⟩
  simp only [Bw,A4,B0,Bz,Bh,A7,Bj,Bi,Cz,A5,Bc,Ba,A0,A1,ofOpt,Bg,By,Bf,Cl,Nat.reduceLT,Nat.reduceEqDiff,Aa,Ab,Ac,Bp]
  exact ⟨_,rfl,k1.trans k2⟩
 by_cases h5:kind=5
 ·subst h5
  have e1:(((5:Nat):Int) == 1)=false:=rfl
  have e2:(((5:Nat):Int) == 2)=false:=rfl
  have e3:(((5:Nat):Int) == 3)=false:=rfl
  have e4:(((5:Nat):Int) == 4)=false:=rfl
  have e5:(((5:Nat):Int) == 5)=true:=rfl
  have hl:=Tc (De kids) 0 4
  have q0:=C5 ([110,111,116,32]) (kT (De kids) 0 4) (by first | omega | (simp only [List.length_append,List.length_cons,List.length_nil]; omega))
  simp only [Br,A6,Ch,Bl,Bq,Bt,Bw,A4,B0,Bs,Bz,Bh,A7,Bj,Cb,Bi,Ci,Cg,A5,Bc,Ba,Cc,A0,A1,Bo,B5,ofOpt,Bb,Bv,Bg,By,Bf,Cl,B7,C2,Nat.reduceLT,Nat.reduceEqDiff,Aa,Ab,Ac,Ae,Aj,Ak,Am,E9,Dq,Tryz.f17,hS1,Cd,Ce,fe0,fe2,fe3,hf48,hf49,hf50,hf51,hf52,hf55,l0,lk,lN,lName,Bp,e1,e2,e3,e4,e5]
  refine WC.mono (Nf (kind:=5) (pos:=pos) (n:=n) (name:=name) (off:=off) hk (by omega) 0 4 hok hz S1 (by exact n1)) ?_
  rintro _ ⟨S2,rfl,k2⟩
  have g2:S2.mem.get S.next=some (.box (exC 5 pos n name off kv)):=(k2.2 _ lt1).trans g1
  have lt2:S.next < S2.next:=Nat.lt_of_lt_of_le lt1 k2.1
  have a2:C3 Tryz.prog S2 30 (.ptr S.next 0)=some (.agg (exC 5 pos n name off kv)):=ld30 g2 rfl
  have b2:=E3 g2
  have c2:=Ga g2
  simp only [Bw,A4,B0,Bz,Bh,A7,Bj,Bi,Cz,A5,Bc,Ba,A0,A1,ofOpt,Bb,Bg,By,Bf,Cl,Nat.reduceLT,Nat.reduceEqDiff,Aa,Ab,Ac,Am,E9,Cy,Bp,q0]
  exact ⟨_,rfl,(k1).trans k2⟩
 by_cases h6:kind=6
 ·subst h6
  have e1:(((6:Nat):Int) == 1)=false:=rfl
  have e2:(((6:Nat):Int) == 2)=false:=rfl
  have e3:(((6:Nat):Int) == 3)=false:=rfl
  have e4:(((6:Nat):Int) == 4)=false:=rfl
  have e5:(((6:Nat):Int) == 5)=false:=rfl
  have e6:(((6:Nat):Int) == 6)=true:=rfl
  simp only [Br,A6,Ch,Bl,Bq,Bt,Bw,A4,B0,Bs,Bz,Bh,A7,Bj,Cb,Bi,Ci,Cg,A5,Bc,Ba,Cc,A0,A1,Bo,B5,ofOpt,Bb,Bv,Bg,By,Bf,Cl,B7,C2,Nat.reduceLT,Nat.reduceEqDiff,Aa,Ab,Ac,Ae,Aj,Ak,Am,E9,Dq,Tryz.f17,hS1,Cd,Ce,fe0,fe2,fe3,hf48,hf49,hf50,hf51,hf52,hf55,l0,lk,lN,lName,Bp,e1,e2,e3,e4,e5,e6]
  refine WC.mono (bin6_w (kind:=6) (pos:=pos) (n:=n) (name:=name) (off:=off) hk hlen hok hz hnm S1 n1) ?_
  rintro _ ⟨S2,rfl,k2⟩
  simp only [Bw,A4,B0,Bz,Bh,A7,Bj,Bi,Cz,A5,Bc,Ba,A0,A1,ofOpt,Bg,By,Bf,Cl,Nat.reduceLT,Nat.reduceEqDiff,Aa,Ab,Ac,Bp]
  exact ⟨_,rfl,k1.trans k2⟩
 by_cases h7:kind=7
 ·subst h7
  have e1:(((7:Nat):Int) == 1)=false:=rfl
  have e2:(((7:Nat):Int) == 2)=false:=rfl
  have e3:(((7:Nat):Int) == 3)=false:=rfl
  have e4:(((7:Nat):Int) == 4)=false:=rfl
  have e5:(((7:Nat):Int) == 5)=false:=rfl
  have e6:(((7:Nat):Int) == 6)=false:=rfl
  have e7:(((7:Nat):Int) == 7)=true:=rfl
  have hl:=qY (De kids) 0 0 0
  have q0:=C5 ([105,102,32]) (kT (De kids) 0 0) (by first | omega | (simp only [List.length_append,List.length_cons,List.length_nil]; omega))
  have q1:=C5 (([105,102,32]) ++ kT (De kids) 0 0) ([32,116,104,101,110,32]) (by first | omega | (simp only [List.length_append,List.length_cons,List.length_nil]; omega))
  have q2:=C5 ((([105,102,32]) ++ kT (De kids) 0 0) ++ [32,116,104,101,110,32]) (kT (De kids) 1 0) (by first | omega | (simp only [List.length_append,List.length_cons,List.length_nil]; omega))
  have q3:=C5 (((([105,102,32]) ++ kT (De kids) 0 0) ++ [32,116,104,101,110,32]) ++ kT (De kids) 1 0) ([32,101,108,115,101,32]) (by first | omega | (simp only [List.length_append,List.length_cons,List.length_nil]; omega))
  have q4:=C5 ((((([105,102,32]) ++ kT (De kids) 0 0) ++ [32,116,104,101,110,32]) ++ kT (De kids) 1 0) ++ [32,101,108,115,101,32]) (kT (De kids) 2 0) (by first | omega | (simp only [List.length_append,List.length_cons,List.length_nil]; omega))
  simp only [Br,A6,Ch,Bl,Bq,Bt,Bw,A4,B0,Bs,Bz,Bh,A7,Bj,Cb,Bi,Ci,Cg,A5,Bc,Ba,Cc,A0,A1,Bo,B5,ofOpt,Bb,Bv,Bg,By,Bf,Cl,B7,C2,Nat.reduceLT,Nat.reduceEqDiff,Aa,Ab,Ac,Ae,Aj,Ak,Am,E9,Dq,Tryz.f17,hS1,Cd,Ce,fe0,fe2,fe3,hf48,hf49,hf50,hf51,hf52,hf55,l0,lk,lN,lName,Bp,e1,e2,e3,e4,e5,e6,e7]
  refine G4 [(0,true),(4,true),(8,true),(1,true),(8,false),(4,false),(2,true),(3,true),(5,true),(8,false),(6,true),(7,true),(9,true),(10,true),(11,true)] (by kernel_rfl) (by kernel_rfl) ?_
  simp only [A5,Bc,Ba,A0,A1,Bo,B5,ofOpt,Bb,Nat.reduceLT,Nat.reduceEqDiff,Aa,Ab,Ac,Af,Ag,Ah,Aj,Ak,Am,E9,hf51,l0,Dj,C0,Df,Cn,Gu]
  refine WC.mono (Nf (kind:=7) (pos:=pos) (n:=n) (name:=name) (off:=off) hk (by omega) 0 0 hok hz S1 (by exact n1)) ?_
  rintro _ ⟨S2,rfl,k2⟩
  have g2:S2.mem.get S.next=some (.box (exC 7 pos n name off kv)):=(k2.2 _ lt1).trans g1
  have lt2:S.next < S2.next:=Nat.lt_of_lt_of_le lt1 k2.1
  have a2:C3 Tryz.prog S2 30 (.ptr S.next 0)=some (.agg (exC 7 pos n name off kv)):=ld30 g2 rfl
  have b2:=E3 g2
  have c2:=Ga g2
  simp only [A5,Bc,Ba,A0,A1,Bo,B5,ofOpt,Bb,Nat.reduceLT,Nat.reduceEqDiff,Aa,Ab,Ac,Aj,Ak,Am,E9,Cy,hf51,rf2,Bp,a2,q0,q1,Dj,Gn,C0,Df,Cn,Du,Dy,Ed]
  refine WC.mono (Nf (kind:=7) (pos:=pos) (n:=n) (name:=name) (off:=off) hk (by omega) 1 0 hok hz S2 (by have:=k2.1; omega)) ?_
  rintro _ ⟨S3,rfl,k3⟩
  have g3:S3.mem.get S.next=some (.box (exC 7 pos n name off kv)):=(k3.2 _ lt2).trans g2
  have lt3:S.next < S3.next:=Nat.lt_of_lt_of_le lt2 k3.1
  have a3:C3 Tryz.prog S3 30 (.ptr S.next 0)=some (.agg (exC 7 pos n name off kv)):=ld30 g3 rfl
  have b3:=E3 g3
  have c3:=Ga g3
  simp only [A5,Bc,Ba,A0,A1,Bo,B5,ofOpt,Bb,Nat.reduceLT,Nat.reduceEqDiff,Aa,Ab,Ac,Aj,Ak,Am,E9,Cy,hf51,rf2,Bp,a3,q2,q3,Dj,Gn,C0,Df,Cn,Du,Dy,Ed]
  refine WC.mono (Nf (kind:=7) (pos:=pos) (n:=n) (name:=name) (off:=off) hk (by omega) 2 0 hok hz S3 (by have:=k2.1; have:=k3.1; omega)) ?_
  rintro _ ⟨S4,rfl,k4⟩
  have g4:S4.mem.get S.next=some (.box (exC 7 pos n name off kv)):=(k4.2 _ lt3).trans g3
  have lt4:S.next < S4.next:=Nat.lt_of_lt_of_le lt3 k4.1
  have a4:C3 Tryz.prog S4 30 (.ptr S.next 0)=some (.agg (exC 7 pos n name off kv)):=ld30 g4 rfl
  have b4:=E3 g4
  have c4:=Ga g4
  simp only [Bw,A4,B0,Bz,A5,Bc,Ba,A0,A1,ofOpt,Bg,By,Bf,Cl,Nat.reduceLT,Nat.reduceEqDiff,Aa,Ab,Ac,Am,E9,Cy,Bp,q4,Ew,Dj,C0,Cn,Du,D9]
  exact ⟨_,rfl,(((k1).trans k2).trans k3).trans k4⟩
 by_cases h8:kind=8
 ·subst h8
  have e1:(((8:Nat):Int) == 1)=false:=rfl
  have e2:(((8:Nat):Int) == 2)=false:=rfl
  have e3:(((8:Nat):Int) == 3)=false:=rfl
  have e4:(((8:Nat):Int) == 4)=false:=rfl
  have e5:(((8:Nat):Int) == 5)=false:=rfl
  have e6:(((8:Nat):Int) == 6)=false:=rfl
  have e7:(((8:Nat):Int) == 7)=false:=rfl
  have e8:(((8:Nat):Int) == 8)=true:=rfl
  have hl:=Ym (De kids) 2 1
  have q0:=C5 (kT (De kids) 0 2) ([32,45,62,32]) (by first | omega | (simp only [List.length_append,List.length_cons,List.length_nil]; omega))
  have q1:=C5 ((kT (De kids) 0 2) ++ [32,45,62,32]) (kT (De kids) 1 1) (by first | omega | (simp only [List.length_append,List.length_cons,List.length_nil]; omega))
  simp only [Br,A6,Ch,Bl,Bq,Bt,Bw,A4,B0,Bs,Bz,Bh,A7,Bj,Cb,Bi,Ci,Cg,A5,Bc,Ba,Cc,A0,A1,Bo,B5,ofOpt,Bb,Bv,Bg,By,Bf,Cl,B7,C2,Nat.reduceLT,Nat.reduceEqDiff,Aa,Ab,Ac,Ae,Aj,Ak,Am,E9,Dq,Tryz.f17,hS1,Cd,Ce,fe0,fe2,fe3,hf48,hf49,hf50,hf51,hf52,hf55,l0,lk,lN,lName,Bp,e1,e2,e3,e4,e5,e6,e7,e8]
  refine G4 [(0,true),(3,true),(1,true),(3,false),(2,true),(4,true),(5,true),(6,true)] (by kernel_rfl) (by kernel_rfl) ?_
  simp only [A5,Bc,Ba,A0,A1,Bo,B5,ofOpt,Bb,Nat.reduceLT,Nat.reduceEqDiff,Aa,Ab,Ac,Af,Ag,Ah,Aj,Ak,Am,E9,hf51,l0,Dj,C0,Df,Cn,Gu]
  refine WC.mono (Nf (kind:=8) (pos:=pos) (n:=n) (name:=name) (off:=off) hk (by omega) 0 2 hok hz S1 (by exact n1)) ?_
  rintro _ ⟨S2,rfl,k2⟩
  have g2:S2.mem.get S.next=some (.box (exC 8 pos n name off kv)):=(k2.2 _ lt1).trans g1
  have lt2:S.next < S2.next:=Nat.lt_of_lt_of_le lt1 k2.1
  have a2:C3 Tryz.prog S2 30 (.ptr S.next 0)=some (.agg (exC 8 pos n name off kv)):=ld30 g2 rfl
  have b2:=E3 g2
  have c2:=Ga g2
  simp only [A5,Bc,Ba,A0,A1,Bo,B5,ofOpt,Bb,Nat.reduceLT,Nat.reduceEqDiff,Aa,Ab,Ac,Aj,Ak,Am,E9,Cy,hf51,rf2,Bp,a2,q0,Dj,Gn,C0,Df,Cn,Du,Dy,Ed]
  refine WC.mono (Nf (kind:=8) (pos:=pos) (n:=n) (name:=name) (off:=off) hk (by omega) 1 1 hok hz S2 (by have:=k2.1; omega)) ?_
  rintro _ ⟨S3,rfl,k3⟩
  have g3:S3.mem.get S.next=some (.box (exC 8 pos n name off kv)):=(k3.2 _ lt2).trans g2
  have lt3:S.next < S3.next:=Nat.lt_of_lt_of_le lt2 k3.1
  have a3:C3 Tryz.prog S3 30 (.ptr S.next 0)=some (.agg (exC 8 pos n name off kv)):=ld30 g3 rfl
  have b3:=E3 g3
  have c3:=Ga g3
  simp only [Bw,A4,B0,Bz,A5,Bc,Ba,A0,A1,ofOpt,Bg,By,Bf,Cl,Nat.reduceLT,Nat.reduceEqDiff,Aa,Ab,Ac,Am,E9,Cy,Bp,q1,Ew,Dj,C0,Cn,Du,D9]
  exact ⟨_,rfl,((k1).trans k2).trans k3⟩
 by_cases h9:kind=9
 ·subst h9
  have e1:(((9:Nat):Int) == 1)=false:=rfl
  have e2:(((9:Nat):Int) == 2)=false:=rfl
  have e3:(((9:Nat):Int) == 3)=false:=rfl
  have e4:(((9:Nat):Int) == 4)=false:=rfl
  have e5:(((9:Nat):Int) == 5)=false:=rfl
  have e6:(((9:Nat):Int) == 6)=false:=rfl
  have e7:(((9:Nat):Int) == 7)=false:=rfl
  have e8:(((9:Nat):Int) == 8)=false:=rfl
  have e9:(((9:Nat):Int) == 9)=true:=rfl
  have hl:=Ym (De kids) 0 1
  have q0:=C5 (kT (De kids) 0 0) ([32,102,98,121,32]) (by first | omega | (simp only [List.length_append,List.length_cons,List.length_nil]; omega))
  have q1:=C5 ((kT (De kids) 0 0) ++ [32,102,98,121,32]) (kT (De kids) 1 1) (by first | omega | (simp only [List.length_append,List.length_cons,List.length_nil]; omega))
  simp only [Br,A6,Ch,Bl,Bq,Bt,Bw,A4,B0,Bs,Bz,Bh,A7,Bj,Cb,Bi,Ci,Cg,A5,Bc,Ba,Cc,A0,A1,Bo,B5,ofOpt,Bb,Bv,Bg,By,Bf,Cl,B7,C2,Nat.reduceLT,Nat.reduceEqDiff,Aa,Ab,Ac,Ae,Aj,Ak,Am,E9,Dq,Tryz.f17,hS1,Cd,Ce,fe0,fe2,fe3,hf48,hf49,hf50,hf51,hf52,hf55,l0,lk,lN,lName,Bp,e1,e2,e3,e4,e5,e6,e7,e8,e9]
  refine G4 [(0,true),(3,true),(1,true),(3,false),(2,true),(4,true),(5,true),(6,true)] (by kernel_rfl) (by kernel_rfl) ?_
  simp only [A5,Bc,Ba,A0,A1,Bo,B5,ofOpt,Bb,Nat.reduceLT,Nat.reduceEqDiff,Aa,Ab,Ac,Af,Ag,Ah,Aj,Ak,Am,E9,hf51,l0,Dj,C0,Df,Cn,Gu]
  refine WC.mono (Nf (kind:=9) (pos:=pos) (n:=n) (name:=name) (off:=off) hk (by omega) 0 0 hok hz S1 (by exact n1)) ?_
  rintro _ ⟨S2,rfl,k2⟩
  have g2:S2.mem.get S.next=some (.box (exC 9 pos n name off kv)):=(k2.2 _ lt1).trans g1
  have lt2:S.next < S2.next:=Nat.lt_of_lt_of_le lt1 k2.1
  have a2:C3 Tryz.prog S2 30 (.ptr S.next 0)=some (.agg (exC 9 pos n name off kv)):=ld30 g2 rfl
  have b2:=E3 g2
  have c2:=Ga g2
  simp only [A5,Bc,Ba,A0,A1,Bo,B5,ofOpt,Bb,Nat.reduceLT,Nat.reduceEqDiff,Aa,Ab,Ac,Aj,Ak,Am,E9,Cy,hf51,rf2,Bp,a2,q0,Dj,Gn,C0,Df,Cn,Du,Dy,Ed]
  refine WC.mono (Nf (kind:=9) (pos:=pos) (n:=n) (name:=name) (off:=off) hk (by omega) 1 1 hok hz S2 (by have:=k2.1; omega)) ?_
  rintro _ ⟨S3,rfl,k3⟩
  have g3:S3.mem.get S.next=some (.box (exC 9 pos n name off kv)):=(k3.2 _ lt2).trans g2
  have lt3:S.next < S3.next:=Nat.lt_of_lt_of_le lt2 k3.1
  have a3:C3 Tryz.prog S3 30 (.ptr S.next 0)=some (.agg (exC 9 pos n name off kv)):=ld30 g3 rfl
  have b3:=E3 g3
  have c3:=Ga g3
  simp only [Bw,A4,B0,Bz,A5,Bc,Ba,A0,A1,ofOpt,Bg,By,Bf,Cl,Nat.reduceLT,Nat.reduceEqDiff,Aa,Ab,Ac,Am,E9,Cy,Bp,q1,Ew,Dj,C0,Cn,Du,D9]
  exact ⟨_,rfl,((k1).trans k2).trans k3⟩
 by_cases h10:kind=10
 ·subst h10
  have e1:(((10:Nat):Int) == 1)=false:=rfl
  have e2:(((10:Nat):Int) == 2)=false:=rfl
  have e3:(((10:Nat):Int) == 3)=false:=rfl
  have e4:(((10:Nat):Int) == 4)=false:=rfl
  have e5:(((10:Nat):Int) == 5)=false:=rfl
  have e6:(((10:Nat):Int) == 6)=false:=rfl
  have e7:(((10:Nat):Int) == 7)=false:=rfl
  have e8:(((10:Nat):Int) == 8)=false:=rfl
  have e9:(((10:Nat):Int) == 9)=false:=rfl
  have e10:(((10:Nat):Int) == 10)=true:=rfl
  have hl:=Tc (De kids) 0 8
  have q0:=C5 ([112,114,101,32]) (kT (De kids) 0 8) (by first | omega | (simp only [List.length_append,List.length_cons,List.length_nil]; omega))
  simp only [Br,A6,Ch,Bl,Bq,Bt,Bw,A4,B0,Bs,Bz,Bh,A7,Bj,Cb,Bi,Ci,Cg,A5,Bc,Ba,Cc,A0,A1,Bo,B5,ofOpt,Bb,Bv,Bg,By,Bf,Cl,B7,C2,Nat.reduceLT,Nat.reduceEqDiff,Aa,Ab,Ac,Ae,Aj,Ak,Am,E9,Dq,Tryz.f17,hS1,Cd,Ce,fe0,fe2,fe3,hf48,hf49,hf50,hf51,hf52,hf55,l0,lk,lN,lName,Bp,e1,e2,e3,e4,e5,e6,e7,e8,e9,e10]
  refine WC.mono (Nf (kind:=10) (pos:=pos) (n:=n) (name:=name) (off:=off) hk (by omega) 0 8 hok hz S1 (by exact n1)) ?_
  rintro _ ⟨S2,rfl,k2⟩
  have g2:S2.mem.get S.next=some (.box (exC 10 pos n name off kv)):=(k2.2 _ lt1).trans g1
  have lt2:S.next < S2.next:=Nat.lt_of_lt_of_le lt1 k2.1
  have a2:C3 Tryz.prog S2 30 (.ptr S.next 0)=some (.agg (exC 10 pos n name off kv)):=ld30 g2 rfl
  have b2:=E3 g2
  have c2:=Ga g2
  simp only [Bw,A4,B0,Bz,Bh,A7,Bj,Bi,Cz,A5,Bc,Ba,A0,A1,ofOpt,Bb,Bg,By,Bf,Cl,Nat.reduceLT,Nat.reduceEqDiff,Aa,Ab,Ac,Am,E9,Cy,Bp,q0]
  exact ⟨_,rfl,(k1).trans k2⟩
 by_cases h11:kind=11
 ·subst h11
  have e1:(((11:Nat):Int) == 1)=false:=rfl
  have e2:(((11:Nat):Int) == 2)=false:=rfl
  have e3:(((11:Nat):Int) == 3)=false:=rfl
  have e4:(((11:Nat):Int) == 4)=false:=rfl
  have e5:(((11:Nat):Int) == 5)=false:=rfl
  have e6:(((11:Nat):Int) == 6)=false:=rfl
  have e7:(((11:Nat):Int) == 7)=false:=rfl
  have e8:(((11:Nat):Int) == 8)=false:=rfl
  have e9:(((11:Nat):Int) == 9)=false:=rfl
  have e10:(((11:Nat):Int) == 10)=false:=rfl
  have e11:(((11:Nat):Int) == 11)=true:=rfl
  have hl:=Tc (De kids) 0 9
  have hw:=bA name off
  have q0:=C5 (kT (De kids) 0 9) (Oy name off) (by first | omega | (simp only [List.length_append,List.length_cons,List.length_nil]; omega))
  simp only [Br,A6,Ch,Bl,Bq,Bt,Bw,A4,B0,Bs,Bz,Bh,A7,Bj,Cb,Bi,Ci,Cg,A5,Bc,Ba,Cc,A0,A1,Bo,B5,ofOpt,Bb,Bv,Bg,By,Bf,Cl,B7,C2,Nat.reduceLT,Nat.reduceEqDiff,Aa,Ab,Ac,Ae,Aj,Ak,Am,E9,Dq,Tryz.f17,hS1,Cd,Ce,fe0,fe2,fe3,hf48,hf49,hf50,hf51,hf52,hf55,l0,lk,lN,lName,Bp,e1,e2,e3,e4,e5,e6,e7,e8,e9,e10,e11]
  refine G4 [(0,true),(2,true),(3,true),(4,true),(5,true),(1,true),(5,false),(3,false),(6,true),(7,true),(8,true)] (by kernel_rfl) (by kernel_rfl) ?_
  simp only [A5,Bc,Ba,A0,A1,Bo,B5,ofOpt,Bb,Nat.reduceLT,Nat.reduceEqDiff,Aa,Ab,Ac,Af,Ag,Ah,Aj,Ak,Am,E9,fe3,fe4,hf51,l0,lName,lOff,Dj,C0,Df,Cn,Gu]
  refine WC.mono (Nf (kind:=11) (pos:=pos) (n:=n) (name:=name) (off:=off) hk (by omega) 0 9 hok hz S1 (by exact n1)) ?_
  rintro _ ⟨S2,rfl,k2⟩
  have g2:S2.mem.get S.next=some (.box (exC 11 pos n name off kv)):=(k2.2 _ lt1).trans g1
  have lt2:S.next < S2.next:=Nat.lt_of_lt_of_le lt1 k2.1
  have a2:C3 Tryz.prog S2 30 (.ptr S.next 0)=some (.agg (exC 11 pos n name off kv)):=ld30 g2 rfl
  have b2:=E3 g2
  have c2:=Ga g2
  simp only [A5,Bc,Ba,A0,A1,Bo,B5,ofOpt,Nat.reduceLT,Nat.reduceEqDiff,Aa,Ab,Ac,Aj,Ak,E9,hf53,lB,Bp,b2,c2,Dj,Gn,Df,Cn,Du,Dy,Ed,G3]
  refine WC.mono (when_w name off (by omega) S2) ?_
  rintro _ rfl
  simp only [Bw,A4,B0,Bz,A5,Bc,Ba,A0,A1,ofOpt,Bg,By,Bf,Cl,Nat.reduceLT,Nat.reduceEqDiff,Aa,Ab,Ac,Am,E9,Cy,Bp,q0,Ew,Dj,C0,Cn,Du,D9]
  exact ⟨_,rfl,(k1).trans k2⟩
 by_cases h12:kind=12
 ·subst h12
  have e1:(((12:Nat):Int) == 1)=false:=rfl
  have e2:(((12:Nat):Int) == 2)=false:=rfl
  have e3:(((12:Nat):Int) == 3)=false:=rfl
  have e4:(((12:Nat):Int) == 4)=false:=rfl
  have e5:(((12:Nat):Int) == 5)=false:=rfl
  have e6:(((12:Nat):Int) == 6)=false:=rfl
  have e7:(((12:Nat):Int) == 7)=false:=rfl
  have e8:(((12:Nat):Int) == 8)=false:=rfl
  have e9:(((12:Nat):Int) == 9)=false:=rfl
  have e10:(((12:Nat):Int) == 10)=false:=rfl
  have e11:(((12:Nat):Int) == 11)=false:=rfl
  have e12:(((12:Nat):Int) == 12)=true:=rfl
  have hl:=Ym (De kids) 0 0
  have q0:=C5 ([109,101,114,103,101,32]) (name) (by first | omega | (simp only [List.length_append,List.length_cons,List.length_nil]; omega))
  have q1:=C5 (([109,101,114,103,101,32]) ++ name) ([32,40]) (by first | omega | (simp only [List.length_append,List.length_cons,List.length_nil]; omega))
  have q2:=C5 ((([109,101,114,103,101,32]) ++ name) ++ [32,40]) (kT (De kids) 0 0) (by first | omega | (simp only [List.length_append,List.length_cons,List.length_nil]; omega))
  have q3:=C5 (((([109,101,114,103,101,32]) ++ name) ++ [32,40]) ++ kT (De kids) 0 0) ([41,32,40]) (by first | omega | (simp only [List.length_append,List.length_cons,List.length_nil]; omega))
  have q4:=C5 ((((([109,101,114,103,101,32]) ++ name) ++ [32,40]) ++ kT (De kids) 0 0) ++ [41,32,40]) (kT (De kids) 1 0) (by first | omega | (simp only [List.length_append,List.length_cons,List.length_nil]; omega))
  have q5:=C5 (((((([109,101,114,103,101,32]) ++ name) ++ [32,40]) ++ kT (De kids) 0 0) ++ [41,32,40]) ++ kT (De kids) 1 0) ([41]) (by first | omega | (simp only [List.length_append,List.length_cons,List.length_nil]; omega))
  simp only [Br,A6,Ch,Bl,Bq,Bt,Bw,A4,B0,Bs,Bz,Bh,A7,Bj,Cb,Bi,Ci,Cg,A5,Bc,Ba,Cc,A0,A1,Bo,B5,ofOpt,Bb,Bv,Bg,By,Bf,Cl,B7,C2,Nat.reduceLT,Nat.reduceEqDiff,Aa,Ab,Ac,Ae,Aj,Ak,Am,E9,Dq,Tryz.f17,hS1,Cd,Ce,fe0,fe2,fe3,hf48,hf49,hf50,hf51,hf52,hf55,l0,lk,lN,lName,Bp,e1,e2,e3,e4,e5,e6,e7,e8,e9,e10,e11,e12]
  refine G4 [(0,true),(1,true),(2,true),(3,true),(4,true),(8,true),(5,true),(8,false),(1,false),(6,true),(7,true),(9,true),(1,false),(10,true),(11,true),(12,true)] (by kernel_rfl) (by kernel_rfl) ?_
  simp only [A5,Bc,Ba,A0,A1,Bo,B5,ofOpt,Bb,Nat.reduceLT,Nat.reduceEqDiff,Aa,Ab,Ac,Af,Ag,Ah,Aj,Ak,Am,E9,Cy,fe3,hf51,l0,lName,q0,q1,Dj,C0,Df,Cn,Gu]
  refine WC.mono (Nf (kind:=12) (pos:=pos) (n:=n) (name:=name) (off:=off) hk (by omega) 0 0 hok hz S1 (by exact n1)) ?_
  rintro _ ⟨S2,rfl,k2⟩
  have g2:S2.mem.get S.next=some (.box (exC 12 pos n name off kv)):=(k2.2 _ lt1).trans g1
  have lt2:S.next < S2.next:=Nat.lt_of_lt_of_le lt1 k2.1
  have a2:C3 Tryz.prog S2 30 (.ptr S.next 0)=some (.agg (exC 12 pos n name off kv)):=ld30 g2 rfl
  have b2:=E3 g2
  have c2:=Ga g2
  simp only [A5,Bc,Ba,A0,A1,Bo,B5,ofOpt,Bb,Nat.reduceLT,Nat.reduceEqDiff,Aa,Ab,Ac,Aj,Ak,Am,E9,Cy,hf51,rf2,Bp,a2,b2,q2,q3,Dj,Gn,C0,Df,Cn,Du,Dy,Ed,G3]
  refine WC.mono (Nf (kind:=12) (pos:=pos) (n:=n) (name:=name) (off:=off) hk (by omega) 1 0 hok hz S2 (by have:=k2.1; omega)) ?_
  rintro _ ⟨S3,rfl,k3⟩
  have g3:S3.mem.get S.next=some (.box (exC 12 pos n name off kv)):=(k3.2 _ lt2).trans g2
  have lt3:S.next < S3.next:=Nat.lt_of_lt_of_le lt2 k3.1
  have a3:C3 Tryz.prog S3 30 (.ptr S.next 0)=some (.agg (exC 12 pos n name off kv)):=ld30 g3 rfl
  have b3:=E3 g3
  have c3:=Ga g3
  simp only [Bw,A4,B0,Bz,A5,Bc,Ba,A0,A1,ofOpt,Bb,Bg,By,Bf,Cl,Nat.reduceLT,Nat.reduceEqDiff,Aa,Ab,Ac,Am,E9,Cy,Bp,b3,q4,q5,Ew,Dj,Gn,C0,Cn,Du,D9,Dy,Ed,G3]
  exact ⟨_,rfl,((k1).trans k2).trans k3⟩
 by_cases h13:kind=13
 ·subst h13
  have e1:(((13:Nat):Int) == 1)=false:=rfl
  have e2:(((13:Nat):Int) == 2)=false:=rfl
  have e3:(((13:Nat):Int) == 3)=false:=rfl
  have e4:(((13:Nat):Int) == 4)=false:=rfl
  have e5:(((13:Nat):Int) == 5)=false:=rfl
  have e6:(((13:Nat):Int) == 6)=false:=rfl
  have e7:(((13:Nat):Int) == 7)=false:=rfl
  have e8:(((13:Nat):Int) == 8)=false:=rfl
  have e9:(((13:Nat):Int) == 9)=false:=rfl
  have e10:(((13:Nat):Int) == 10)=false:=rfl
  have e11:(((13:Nat):Int) == 11)=false:=rfl
  have e12:(((13:Nat):Int) == 12)=false:=rfl
  have e13:(((13:Nat):Int) == 13)=true:=rfl
  have hl:=Pd (De kids)
  have q0:=C5 (name) ([40]) (by first | omega | (simp only [List.length_append,List.length_cons,List.length_nil]; omega))
  have q1:=C5 ((name) ++ [40]) (Kj (De kids)) (by first | omega | (simp only [List.length_append,List.length_cons,List.length_nil]; omega))
  have q2:=C5 (((name) ++ [40]) ++ Kj (De kids)) ([41]) (by first | omega | (simp only [List.length_append,List.length_cons,List.length_nil]; omega))
  simp only [Br,A6,Ch,Bl,Bq,Bt,Bw,A4,B0,Bs,Bz,Bh,A7,Bj,Cb,Bi,Ci,Cg,A5,Bc,Ba,Cc,A0,A1,Bo,B5,ofOpt,Bb,Bv,Bg,By,Bf,Cl,B7,C2,Nat.reduceLT,Nat.reduceEqDiff,Aa,Ab,Ac,Ae,Aj,Ak,Am,E9,Dq,Tryz.f17,hS1,Cd,Ce,fe0,fe2,fe3,hf48,hf49,hf50,hf51,hf52,hf55,l0,lk,lN,lName,Bp,e1,e2,e3,e4,e5,e6,e7,e8,e9,e10,e11,e12,e13]
  refine G4 [(0,true),(1,true),(2,true),(3,true),(4,true),(1,false),(5,true),(6,true),(7,true)] (by kernel_rfl) (by kernel_rfl) ?_
  simp only [A5,Bc,Ba,A0,A1,Bo,B5,ofOpt,Bb,Nat.reduceLT,Nat.reduceEqDiff,Aa,Ab,Ac,Af,Ag,Ah,Aj,Ak,Am,E9,Cy,fe3,hf54,l0,lName,q0,Dj,C0,Df,Cn,Gu]
  refine WC.mono (dP (kind:=13) (pos:=pos) (n:=n) (name:=name) (off:=off) hk hlen hok hz S1 n1) ?_
  rintro _ ⟨S2,rfl,k2⟩
  have g2:S2.mem.get S.next=some (.box (exC 13 pos n name off kv)):=(k2.2 _ lt1).trans g1
  have lt2:S.next < S2.next:=Nat.lt_of_lt_of_le lt1 k2.1
  have a2:C3 Tryz.prog S2 30 (.ptr S.next 0)=some (.agg (exC 13 pos n name off kv)):=ld30 g2 rfl
  have b2:=E3 g2
  have c2:=Ga g2
  simp only [Bw,A4,B0,Bz,A5,Bc,Ba,A0,A1,ofOpt,Bb,Bg,By,Bf,Cl,Nat.reduceLT,Nat.reduceEqDiff,Aa,Ab,Ac,Am,E9,Cy,Bp,b2,q1,q2,Ew,Dj,Gn,C0,Cn,Du,D9,Dy,Ed,G3]
  exact ⟨_,rfl,(k1).trans k2⟩
 by_cases h14:kind=14
 ·subst h14
  have e1:(((14:Nat):Int) == 1)=false:=rfl
  have e2:(((14:Nat):Int) == 2)=false:=rfl
  have e3:(((14:Nat):Int) == 3)=false:=rfl
  have e4:(((14:Nat):Int) == 4)=false:=rfl
  have e5:(((14:Nat):Int) == 5)=false:=rfl
  have e6:(((14:Nat):Int) == 6)=false:=rfl
  have e7:(((14:Nat):Int) == 7)=false:=rfl
  have e8:(((14:Nat):Int) == 8)=false:=rfl
  have e9:(((14:Nat):Int) == 9)=false:=rfl
  have e10:(((14:Nat):Int) == 10)=false:=rfl
  have e11:(((14:Nat):Int) == 11)=false:=rfl
  have e12:(((14:Nat):Int) == 12)=false:=rfl
  have e13:(((14:Nat):Int) == 13)=false:=rfl
  have e14:(((14:Nat):Int) == 14)=true:=rfl
  simp only [Br,A6,Ch,Bl,Bq,Bt,Bw,A4,B0,Bs,Bz,Bh,A7,Bj,Cb,Bi,Ci,Cg,A5,Bc,Ba,Cc,A0,A1,Bo,B5,ofOpt,Bb,Bv,Bg,By,Bf,Cl,B7,C2,Nat.reduceLT,Nat.reduceEqDiff,Aa,Ab,Ac,Ae,Aj,Ak,Am,E9,Dq,Tryz.f17,hS1,Cd,Ce,fe0,fe2,fe3,hf48,hf49,hf50,hf51,hf52,hf55,l0,lk,lN,lName,Bp,e1,e2,e3,e4,e5,e6,e7,e8,e9,e10,e11,e12,e13,e14]
  refine WC.mono (await_w (kind:=14) (pos:=pos) (n:=n) (name:=name) (off:=off) hk hlen hok hz hnm S1 n1) ?_
  rintro _ ⟨S2,rfl,k2⟩
  simp only [Bw,A4,B0,Bz,Bh,A7,Bj,Bi,Cz,A5,Bc,Ba,A0,A1,ofOpt,Bg,By,Bf,Cl,Nat.reduceLT,Nat.reduceEqDiff,Aa,Ab,Ac,Bp]
  exact ⟨_,rfl,k1.trans k2⟩
 have e1:((kind:Int) == 1)=false:=by rw [beq_eq_false_iff_ne]; omega
 have e2:((kind:Int) == 2)=false:=by rw [beq_eq_false_iff_ne]; omega
 have e3:((kind:Int) == 3)=false:=by rw [beq_eq_false_iff_ne]; omega
 have e4:((kind:Int) == 4)=false:=by rw [beq_eq_false_iff_ne]; omega
 have e5:((kind:Int) == 5)=false:=by rw [beq_eq_false_iff_ne]; omega
 have e6:((kind:Int) == 6)=false:=by rw [beq_eq_false_iff_ne]; omega
 have e7:((kind:Int) == 7)=false:=by rw [beq_eq_false_iff_ne]; omega
 have e8:((kind:Int) == 8)=false:=by rw [beq_eq_false_iff_ne]; omega
 have e9:((kind:Int) == 9)=false:=by rw [beq_eq_false_iff_ne]; omega
 have e10:((kind:Int) == 10)=false:=by rw [beq_eq_false_iff_ne]; omega
 have e11:((kind:Int) == 11)=false:=by rw [beq_eq_false_iff_ne]; omega
 have e12:((kind:Int) == 12)=false:=by rw [beq_eq_false_iff_ne]; omega
 have e13:((kind:Int) == 13)=false:=by rw [beq_eq_false_iff_ne]; omega
 have e14:((kind:Int) == 14)=false:=by rw [beq_eq_false_iff_ne]; omega
 simp only [Br,A6,Ch,Bl,Bq,Bt,Bw,A4,B0,Bs,Bz,Bh,A7,Bj,Cb,Bi,Cg,A5,Bc,Ba,Cc,A0,A1,Bo,B5,ofOpt,Bb,Bv,Bg,By,Bf,Cl,B7,C2,Nat.reduceLT,Nat.reduceEqDiff,Aa,Ab,Ac,Ae,Aj,Ak,Am,E9,Dq,Tryz.f17,hS1,Cd,Ce,fe0,fe2,fe3,hf48,hf49,hf50,hf51,hf52,hf55,l0,lk,lN,lName,Bp,e1,e2,e3,e4,e5,e6,e7,e8,e9,e10,e11,e12,e13,e14]
 have e:Dz (.mk kind pos n name off kids)=[]:=by
  show Md kind n name off (De kids)=[]
  unfold Md
  split <;> first | rfl | (exfalso; omega)
 rw [e]
 exact ⟨_,rfl,k1⟩
end Go.Ax
noncomputable section
namespace Go.Ax
open Go.RowKit Go.Proofs
set_option maxRecDepth 100000
def R5 (d:PD):Prop:=d.name.length ≤ 30 ∧ d.clock.length ≤ 30
end Go.Ax
noncomputable section
namespace Go.Ax
open Go.RowKit Go.Proofs
set_option maxRecDepth 100000
end Go.Ax
noncomputable section
namespace Go.Ax
open Go.RowKit Go.Proofs
theorem U0 {w w':World} {base e size n:Nat} {v:Value} {xs:List Value} (h:w.ownsRow base e size v n xs) (hb:Below w.heap.size w w'):w'.ownsRow base e size v n xs:=by
 refine ⟨h.1,?_⟩
 rcases h.2 with hn | ⟨g,cap,cur,hv,hbg,hg,rest⟩
 ·exact .inl hn
 ·exact .inr ⟨g,cap,cur,hv,hbg,(hb.block g (Array.getElem?_eq_some_iff.1 hg).1).trans hg,rest⟩
def Six (w:World) (b o:Nat) (c0 c1 c2 c3 c4 c5:Value):Prop :=
 w.cell? ⟨b,o,none⟩=some c0 ∧ w.cell? ⟨b,o + 1,none⟩=some c1 ∧ w.cell? ⟨b,o + 2,none⟩=some c2 ∧ w.cell? ⟨b,o + 3,none⟩=some c3 ∧ w.cell? ⟨b,o + 4,none⟩=some c4 ∧ w.cell? ⟨b,o + 5,none⟩=some c5
theorem Six.below {w w':World} {B b o:Nat} {c0 c1 c2 c3 c4 c5:Value} (hb:Below B w w') (h:b < B) (hs:Six w b o c0 c1 c2 c3 c4 c5):Six w' b o c0 c1 c2 c3 c4 c5:=by
 obtain ⟨h0,h1,h2,h3,h4,h5⟩:=hs
 exact ⟨(hb.cell (p:=⟨b,o,none⟩) h).trans h0,(hb.cell (p:=⟨b,o + 1,none⟩) h).trans h1,(hb.cell (p:=⟨b,o + 2,none⟩) h).trans h2,(hb.cell (p:=⟨b,o + 3,none⟩) h).trans h3,(hb.cell (p:=⟨b,o + 4,none⟩) h).trans h4,(hb.cell (p:=⟨b,o + 5,none⟩) h).trans h5⟩
def Blk (w:World) (b T:Nat) (cs:Array Value):Prop:=w.heap[b]? = some (.cells cs T (0,0))
theorem Blk.lt {w:World} {b T:Nat} {cs:Array Value} (h:Blk w b T cs):b < w.heap.size:=lt_of_block h
theorem Blk.cell {w:World} {b T:Nat} {cs:Array Value} (h:Blk w b T cs) {o:Nat} {v:Value} (hv:cs[o]? = some v):w.cell? ⟨b,o,none⟩=some v:=by
 unfold Blk at h
 simp [World.cell?,h,hv]
theorem Blk.new (w:World) (T:Nat) (cs:Array Value):Blk (w.alloc (.cells cs T)) w.heap.size T cs:=heap_alloc_new w _
theorem Blk.same {w w':World} {b T:Nat} {cs:Array Value} (h:Blk w b T cs) (hs:w'.heap[b]? = w.heap[b]?):Blk w' b T cs:=hs.trans h
theorem Blk.below {w w':World} {b T:Nat} {cs:Array Value} (h:Blk w b T cs) (hb:Below w.heap.size w w'):Blk w' b T cs:=h.same (hb.block b h.lt)
theorem Blk.alloc {w:World} {b T:Nat} {cs:Array Value} (h:Blk w b T cs) (o:Obj):Blk (w.alloc o) b T cs:=h.same (heap_alloc_old w _ h.lt)
theorem Blk.other {w:World} {b b' o T:Nat} {cs:Array Value} {x:Value} (h:Blk w b T cs) (hne:b ≠ b'):Blk (w.setCell ⟨b',o,none⟩ x) b T cs :=
 h.same (Below.heap_setCell _ _ _ _ hne)
theorem Blk.set {w:World} {b o T:Nat} {cs:Array Value} (h:Blk w b T cs) (x:Value):Blk (w.setCell ⟨b,o,none⟩ x) b T (cs.setIfInBounds o x):=by
 have hlt:=h.lt
 have h':w.heap[b]=.cells cs T (0,0):=by have:=h; unfold Blk at this; simpa [Array.getElem?_eq_getElem hlt] using this
 show (w.heap.modify b _)[b]? = _
 rw [Array.getElem?_eq_getElem (by simpa using hlt),Array.getElem_modify_self,h']
 rfl
theorem Blk.grown {w w':World} {b T:Nat} {cs:Array Value} {row:Option Nat} (h:Blk w b T cs) (hg:w.grownBy w' row) (hne:row ≠ some b):Blk w' b T cs :=
 h.same (hg.block b h.lt (fun e=>hne e.symm))
theorem xT:(Tryz.prog.info? 108).map (·.size)=some 2:=by kernel_rfl
theorem lies108:liesAt Tryz.prog Tryz.prog.depth 108 (2 / Tryz.prog.cellsOf 108) 0 108 1=true:=by kernel_rfl
theorem infoByte5:(Tryz.prog.info? 5).map (fun i=>(i.zero,i.size,i.bytes))=some (some (.int .u8 0),1,1):=by kernel_rfl
set_option maxHeartbeats 1000000 in
set_option maxRecDepth 100000 in
theorem cc_used (b:Nat) (w:World) (h0:w.cell? ⟨b,0,none⟩=some (.pointer (some ⟨b,0,none⟩))) :
  Calls Tryz.prog 92 #[.pointer (some ⟨b,0,none⟩)] w fun e w'=>e=.returned (.tuple #[]) ∧ w' = w:=by
 obtain ⟨j,hj,_⟩:=Option.map_eq_some_iff.1 xT
 go_enter Tryz.func92,Tryz.ntmps92
 go_wp2
 rw [Lib.run_neq_ptr_same w _ Tryz.underlying106 hj]
 go_wp2
 go_end0
 exact ⟨rfl,rfl⟩
set_option maxHeartbeats 1000000 in
set_option maxRecDepth 100000 in
theorem cc_fresh (b:Nat) (w:World) (h0:w.cell? ⟨b,0,none⟩=some (.pointer none)) (hsh:w.shape? b=some (108,2)) (hfz:w.frozen? ⟨b,0,none⟩=false) :
  Calls Tryz.prog 92 #[.pointer (some ⟨b,0,none⟩)] w fun e w'=>e=.returned (.tuple #[]) ∧ w' = w.setCell ⟨b,0,none⟩ (.pointer (some ⟨b,0,none⟩)):=by
 obtain ⟨j,hj,hjs⟩:=Option.map_eq_some_iff.1 xT
 go_enter Tryz.func92,Tryz.ntmps92
 go_wp2
 rw [Lib.run_to_unsafe w ⟨b,0,none⟩ Tryz.underlying106 Tryz.underlying198 hj (by rw [hjs]; decide) hsh (Nat.zero_lt_succ 1)]
 simp only [Result.andThen]
 rw [Oper.upon_value]
 go_wp2
 rw [run_callFunc_extern Tryz.func130 (by kernel_rfl) (by kernel_rfl) (by kernel_rfl) (e:=Extern.AbiNoEscape.same) (by kernel_rfl)]
 rw [Lib.run_noEscape]
 simp only [Result.andThen]
 rw [Oper.upon_value]
 go_wp2
 rw [Lib.run_from_unsafe w ⟨b,0,none⟩ Tryz.underlying198 Tryz.underlying106 hj hsh lies108]
 simp only [Result.andThen]
 rw [Oper.upon_value]
 go_wp2
 go_end0
 exact ⟨rfl,rfl⟩
theorem cc_any (B b:Nat) (bs:List Value) (w:World) (h:Lib.IsBuilder 108 5 B b bs w) :
  Calls Tryz.prog 92 #[.pointer (some ⟨b,0,none⟩)] w fun e w'=>e=.returned (.tuple #[]) ∧ (Lib.BuilderAt 108 5 B b (.pointer (some ⟨b,0,none⟩)) bs w' ∧ Below B w w' ∧ ∀ k T cs,k ≠ b → Blk w k T cs → Blk w' k T cs):=by
 rcases h with h | h
 ·refine (cc_fresh b w h.cell0 h.shape h.frozen0).mono ?_
  rintro e w' ⟨rfl,rfl⟩
  exact ⟨rfl,h.used _,(Below.refl B w).setCell (p:=⟨b,0,none⟩) h.1 _,fun k T cs hk hb=>hb.other hk⟩
 ·refine (cc_used b w h.cell0).mono ?_
  rintro e w' ⟨rfl,rfl⟩
  exact ⟨rfl,h,Below.refl B _,fun k T cs hk hb=>hb⟩
set_option maxHeartbeats 2000000 in
set_option maxRecDepth 100000 in
theorem write_any (B b:Nat) (bs:List Value) (s:ByteArray) (w:World) (h:Lib.IsBuilder 108 5 B b bs w) (hlen:bs.length + s.size ≤ 140737488355328) (hBw:B ≤ w.heap.size) :
  Calls Tryz.prog 59 #[.pointer (some ⟨b,0,none⟩),.string s] w fun e w'=>e=.returned (.tuple #[.int .i64 s.size,.nilIface]) ∧ (Lib.BuilderAt 108 5 B b (.pointer (some ⟨b,0,none⟩)) (bs ++ Lib.strCells s) w' ∧ Below B w w' ∧ ∀ k T cs,k ≠ b → T ≠ 5 → Blk w k T cs → Blk w' k T cs):=by
 obtain ⟨i0,hi,hz0,hz1,hz2⟩:=info_parts infoByte5
 go_enter Tryz.func59,Tryz.ntmps59
 go_wp2_with fail
 refine (cc_any B b bs _ h).mono ?_
 rintro e w1 ⟨rfl,h1,hb1,hk1⟩
 obtain ⟨hB,v,hbk,hown,hne⟩:=h1
 have c0:w1.cell? ⟨b,0,none⟩=some (.pointer (some ⟨b,0,none⟩)):=by rw [Lib.cell_of_heap hbk]; rfl
 have c1:w1.cell? ⟨b,1,none⟩=some v:=by rw [Lib.cell_of_heap hbk]; rfl
 go_wp2_with (at_builtin; refine Lib.wpList_append_own_string _ rfl _ _ 77 9 rfl B 5 i0 Tryz.underlying77 Tryz.underlying9 hi hz0 hz1 hz2 _ _ _ rfl hown s rfl ?c3 ?c4 ?c5 ?_)
 case c3=>unfold maxLen; omega
 case c4=>omega
 case c5=>have:=hb1.size; omega
 intro v' w2 hown' hgrow _
 have hlt:b < w1.heap.size:=by
  rcases Nat.lt_or_ge b w1.heap.size with h' | h'
  ·exact h'
  ·simp [Array.getElem?_eq_none h'] at hbk
 have hb2:w2.heap[b]? = some (.cells #[.pointer (some ⟨b,0,none⟩),v] 108 (0,0)):=by
  rw [hgrow.block b hlt (fun e=>hne e.symm)]
  exact hbk
 have d0:w2.cell? ⟨b,0,none⟩=some (.pointer (some ⟨b,0,none⟩)):=by rw [Lib.cell_of_heap hb2]; rfl
 have d1:w2.cell? ⟨b,1,none⟩=some v:=by rw [Lib.cell_of_heap hb2]; rfl
 have f1:w2.frozen? ⟨b,1,none⟩=false:=Lib.frozen_of_heap hb2 1
 obtain ⟨ao,n',cap,rfl⟩:∃ ao n' cap,v' = .slice ao n' cap:=by
  rcases hown'.2 with ⟨hv,_⟩ | ⟨g,cap,cur,hv,_⟩
  ·exact ⟨_,_,_,hv⟩
  ·exact ⟨_,_,_,hv⟩
 go_wp2
 go_ret2
 refine ⟨rfl,?_,?_,?_⟩
 ·exact Lib.BuilderAt.put (T:=108) (e:=5) hB hb2 (bs':=bs ++ Lib.strCells s) (by simpa [Lib.strCells_length] using hown') (by decide)
 ·exact (hb1.grown hgrow (by have:=hb1.size; omega) (fun k hk=>(hown.lt k hk).1)).setCell (p:=⟨b,1,none⟩) hB _
 ·intro k T cs hk hT hb
  have hb1':=hk1 k T cs hk hb
  refine Blk.other (hb1'.grown hgrow (fun e=>?_)) hk
  rcases hown.2 with ⟨hv,_⟩ | ⟨g,cap,cur,hv,_,hg,_⟩
  ·subst hv; simp [Value.ownBlock] at e
  ·subst hv
   have:g=k:=by simpa [Value.ownBlock] using e
   subst this
   have h2:=hb1'.symm.trans hg
   injection h2 with h2
   injection h2 with _ h2
   exact hT h2
end Go.Ax
noncomputable section
namespace Go.Ax
open Go.RowKit Go.Proofs
theorem Tm {w w':World} (hb:Below w.heap.size w w'):Ev (GhW w) w (GhW w') w' :=
 ⟨fun _ _ h=>(by cases h),fun b o h=>⟨Nat.lt_of_lt_of_le h.1 hb.size,by obtain ⟨v,hv⟩:=h.2; exact ⟨v,(hb.cell (p:=⟨b,o,none⟩) h.1).trans hv⟩⟩,fun b o v h hv=>(hb.cell (p:=⟨b,o,none⟩) h.1).trans hv,fun b arr T fr h=>⟨arr,fr,(hb.block b (Array.getElem?_eq_some_iff.1 h).1).trans h,rfl⟩⟩
def RdD (w:World) (B:Nat) (v:Value) (es:List PD):Prop:=∃ p c,v=.slice p es.length c ∧ ∃ a,VR (GhW w) w a v ∧ I5 6 He a es
def RdE (w:World) (v:Value) (q:PQ):Prop:=∃ a,VR (GhW w) w a v ∧ aA a q
theorem RdD.below {w w':World} {B:Nat} {v:Value} {es:List PD} (h:RdD w B v es) (hb:Below w.heap.size w w'):RdD w' B v es:=by
 obtain ⟨p,c,hv,a,h1,h2⟩:=h
 exact ⟨p,c,hv,a,h1.mono (Tm hb),h2⟩
theorem RdE.below {w w':World} {v:Value} {q:PQ} (h:RdE w v q) (hb:Below w.heap.size w w'):RdE w' v q:=by
 obtain ⟨a,h1,h2⟩:=h
 exact ⟨a,h1.mono (Tm hb),h2⟩
structure Nd where
 nm:ByteArray
 pos:Int
 ins:List PD
 outs:List PD
 vars:List PD
 eqs:List PQ
theorem jL {w w':World} {B b:Nat} {bs:List Value} (h:Lib.IsBuilder 108 5 B b bs w) (hb:Below w.heap.size w w'):Lib.IsBuilder 108 5 B b bs w':=by
 rcases h with ⟨h1,v,h2,h3,h4⟩ | ⟨h1,v,h2,h3,h4⟩
 ·exact Or.inl ⟨h1,v,(hb.block b (Array.getElem?_eq_some_iff.1 h2).1).trans h2,U0 h3 hb,h4⟩
 ·exact Or.inr ⟨h1,v,(hb.block b (Array.getElem?_eq_some_iff.1 h2).1).trans h2,U0 h3 hb,h4⟩
theorem lU (a b:ByteArray):Lib.strCells a ++ Lib.strCells b=Lib.strCells (a ++ b):=by unfold Lib.strCells; simp
def Y9 (w:World) (nb:Nat) (cs:Array Value) (acc:ByteArray) (wx:World):Prop :=
 Below w.heap.size w wx ∧ Blk wx nb 49 cs ∧ Lib.IsBuilder 108 5 w.heap.size w.heap.size (Lib.strCells acc) wx
theorem Y9.write {w wx:World} {nb:Nat} {cs:Array Value} {acc s:ByteArray} (h:Y9 w nb cs acc wx) (hn:nb ≠ w.heap.size) (hz:acc.size + s.size ≤ 140737488355328) :
  Calls Tryz.prog 59 #[.pointer (some ⟨w.heap.size,0,none⟩),.string s] wx fun e w'=>e=.returned (.tuple #[.int .i64 s.size,.nilIface]) ∧ Y9 w nb cs (acc ++ s) w' ∧ ∀ k T cs,k ≠ w.heap.size → T ≠ 5 → Blk wx k T cs → Blk w' k T cs:=by
 refine (write_any w.heap.size w.heap.size (Lib.strCells acc) s wx h.2.2 (by rw [Lib.strCells_length]; exact hz) h.1.size).mono ?_
 rintro e w' ⟨rfl,h1,h2,h3⟩
 exact ⟨rfl,⟨h.1.trans h2,h3 _ _ _ hn (by decide) h.2.1,Or.inr (lU acc s ▸ h1)⟩,h3⟩
theorem Y9.below {w wx w':World} {nb:Nat} {cs:Array Value} {acc:ByteArray} (h:Y9 w nb cs acc wx) (hb:Below wx.heap.size wx w'):Y9 w nb cs acc w' :=
 ⟨h.1.trans (hb.mono h.1.size),h.2.1.below hb,jL h.2.2 hb⟩
theorem Y9.drew {w wx:World} {nb:Nat} {cs:Array Value} {acc:ByteArray} (h:Y9 w nb cs acc wx):Y9 w nb cs acc wx.drew:=h.below ((Below.refl _ _).drew)
end Go.Ax
noncomputable section
namespace Go.Ax
open Go.RowKit Go.Proofs
set_option maxRecDepth 100000
theorem NodeRows.at:∀ {es:List AV} {l:List PN},NodeRows es l → es.length=l.length ∧ ∀ i (h:i < l.length),∃ x,es[i]? = some x ∧ Td x l[i]
 | _,_,.nil=>⟨rfl,fun i h=>absurd h (Nat.not_lt_zero i)⟩
 | _,_,.cons a q r l h h2=>⟨by simp [h2.at.1],fun i hi=>by
  cases i with
  | zero=>exact ⟨a,rfl,h⟩
  | succ i=>exact h2.at.2 i (by simpa using hi)⟩
theorem EqRows.at:∀ {es:List AV} {l:List PQ},EqRows es l → es.length=l.length ∧ ∀ i (h:i < l.length),∃ x,es[i]? = some x ∧ aA x l[i]
 | _,_,.nil=>⟨rfl,fun i h=>absurd h (Nat.not_lt_zero i)⟩
 | _,_,.cons a q r l h h2=>⟨by simp [h2.at.1],fun i hi=>by
  cases i with
  | zero=>exact ⟨a,rfl,h⟩
  | succ i=>exact h2.at.2 i (by simpa using hi)⟩
end Go.Ax
noncomputable section
namespace Go.Ax
open Go.RowKit Go.Proofs
set_option maxRecDepth 100000
def Ql:List (List UInt8):=[[32],[10],[9],[32,45,45,32,40,120,10]]
theorem nZ {p:UInt8 → Bool} {b:UInt8} {r:List UInt8} (h:p b=true):cnt p (b :: r)=cnt p r + 1:=by
 show (if p b then cnt p r + 1 else 0)=_
 rw [if_pos h]
theorem hU {s0:List UInt8} (h:s0 ∈ Fz) {c:UInt8} (hc:c=32 ∨ c=10 ∨ c=9) (X:List UInt8):Fz.find? (fun s=>Ef s (s0 ++ c :: X))=some s0 ∧ Ef [45,45] (s0 ++ c :: X)=false ∧ (∃ b r,s0=b :: r ∧ Gk b=false ∧ D1 b=false ∧ Ei b=false):=by
 simp only [Fz,List.mem_cons,List.not_mem_nil,or_false] at h
 rcases h with rfl | rfl | rfl | rfl | rfl | rfl | rfl | rfl | rfl | rfl | rfl | rfl | rfl | rfl | rfl | rfl <;> rcases hc with rfl | rfl | rfl <;> exact ⟨rfl,rfl,_,_,rfl,rfl,rfl,rfl⟩
theorem Vl {b:UInt8} (h:Gk b=true):Ei b=false ∧ b ≠ 45:=by
 have h':∀ x:Fin 256,Gk ⟨⟨x⟩⟩=true → Ei ⟨⟨x⟩⟩=false ∧ (⟨⟨x⟩⟩:UInt8) ≠ 45:=by decide
 exact h' ⟨b.toNat,b.toNat_lt⟩ h
theorem Un {b:UInt8} (h:D1 b=true):Ei b=false ∧ b ≠ 45 ∧ Gk b=false:=by
 have h':∀ x:Fin 256,D1 ⟨⟨x⟩⟩=true → Ei ⟨⟨x⟩⟩=false ∧ (⟨⟨x⟩⟩:UInt8) ≠ 45 ∧ Gk ⟨⟨x⟩⟩=false:=by decide
 exact h' ⟨b.toNat,b.toNat_lt⟩ h
theorem lA {c:UInt8} (hc:c=32 ∨ c=10 ∨ c=9):Eu c=false ∧ D1 c=false ∧ Ei c=true:=by
 rcases hc with rfl | rfl | rfl <;> exact ⟨rfl,rfl,rfl⟩
theorem Qj {b:UInt8} {r:List UInt8} (h:b ≠ 45):Ef [45,45] (b :: r)=false:=by
 unfold Ef
 rw [decide_eq_false_iff_not]
 intro e
 cases r with
 | nil=>simp at e
 | cons x r=>simp at e; exact h e.1
theorem Nt {b:UInt8} {r:List UInt8} (h:Ei b=false):cnt Ei (b :: r)=0:=by unfold cnt; rw [h]; rfl
theorem Lr {c:UInt8} (hc:c=32 ∨ c=10 ∨ c=9) (N:Nat) (R:List UInt8):Hg (N + 1) (c :: R)=1 + Hg (N + 1) R:=by
 obtain ⟨_,_,c3⟩:=lA hc
 have e:cnt Ei (c :: R)=cnt Ei R + 1:=nZ c3
 rw [Rd,Rd,e]
 simp only [List.drop_succ_cons,Nat.add_right_comm _ 1]
 split <;> omega
theorem Nl {R:List UInt8} (h1:cnt Ei R=0) (h2:Ef [45,45] R=false) (N:Nat):Hg N R=0:=by
 cases N with
 | zero=>rfl
 | succ N=>rw [Rd,h1]; simp only [List.drop_zero]; rw [h2]; rfl
def laid (f:Nat → List UInt8):Nat → List Tk → List UInt8
 | _,[]=>[]
 | k,t :: r=>t.text ++ (f k ++ laid f (k + 1) r)
inductive FromLex:List Tk → Prop where
 | last (t:Tk) (h:t.kind=5 ∧ t.text=[] ∧ t.num=0):FromLex [t]
 | cons (t:Tk) (r:List Tk) (l:List UInt8) (a:Nat) (h:H7 l a=some (t,0)) (hr:FromLex r):FromLex (t :: r)
inductive LikeTs:List Tk → List Tk → Prop where
 | nil:LikeTs [] []
 | cons (t u:Tk) (r s:List Tk) (h:tD t u) (h2:LikeTs r s):LikeTs (t :: r) (u :: s)
theorem LikeTs.s:∀ {ts us:List Tk},LikeTs ts us → LikeS ts us
 | _,_,.nil=>⟨rfl,fun i=>⟨rfl,rfl,rfl⟩⟩
 | _,_,.cons t u r s h h2=>⟨by simp [h2.s.len],fun i=>by
  cases i with
  | zero=>exact h
  | succ i=>exact h2.s.at_ i⟩
section
variable {f:Nat → List UInt8} (hf:∀ k,f k ∈ Ql) (T:List UInt8)
include hf
end
end Go.Ax
noncomputable section
namespace Go.Ax
open Go.RowKit Go.Proofs
set_option maxRecDepth 100000
def OkR {α:Type} (Q:α → Nat → Prop) (x:PR α):Prop:=∀ a j,x=.ok a j → Q a j
section
variable {α β:Type}
theorem OkR.ok {Q:α → Nat → Prop} {a:α} {j:Nat} (h:Q a j):OkR Q (.ok a j):=fun a' j' e=>by injection e with e1 e2; subst e1; subst e2; exact h
theorem OkR.bad {Q:α → Nat → Prop} {a e:Nat}:OkR Q (.bad a e:PR α):=fun a' j' e=>by cases e
theorem OkR.out {Q:α → Nat → Prop}:OkR Q (.out:PR α):=fun a' j' e=>by cases e
theorem OkR.bind {Q:α → Nat → Prop} {R:β → Nat → Prop} {x:PR α} {f:α → Nat → PR β} (h:OkR Q x) (hf:∀ a j,Q a j → OkR R (f a j)):OkR R (x.bind f):=by
 cases x with
 | ok a j=>exact hf a j (h a j rfl)
 | bad a e=>exact .bad
 | out=>exact .out
theorem OkR.ite {Q:α → Nat → Prop} {c:Prop} [Decidable c] {x y:PR α} (h1:c → OkR Q x) (h2:¬ c → OkR Q y):OkR Q (if c then x else y):=by
 by_cases h:c
 ·rw [if_pos h]; exact h1 h
 ·rw [if_neg h]; exact h2 h
end
theorem V0 (x:Int):-9223372036854775808 ≤ IntKind.i64.wrap x ∧ IntKind.i64.wrap x ≤ 9223372036854775807:=by
 unfold IntKind.wrap
 constructor <;> (simp [IntKind.bits,IntKind.signed]; try omega)
def xE (ts:List Tk):Prop:=∀ i,(tk ts i).kind=1 → (tk ts i).text.length ≤ 30
section
variable {ts:List Tk} (hts:xE ts)
include hts
omit hts in
omit hts in
omit hts in
omit hts in
omit hts in
omit hts in
omit hts in
omit hts in
omit hts in
end
end Go.Ax
noncomputable section
namespace Go.Ax
open Go.RowKit Go.Proofs
set_option maxRecDepth 100000
def O1 {α:Type} (G:α → Prop) (k:Nat) (l:List α) (j:Nat):Prop:=(∀ x ∈ l,G x) ∧ l.length + k ≤ j
theorem O1.snoc {α:Type} {G:α → Prop} {k i j:Nat} {l:List α} {a:α} (h:O1 G k l i) (ha:G a) (hij:i < j):O1 G k (l ++ [a]) j :=
 ⟨fun x hx=>by simp at hx; rcases hx with hx | rfl; exact h.1 _ hx; exact ha,by have:=h.2; simp; omega⟩
theorem O1.one {α:Type} {G:α → Prop} {k j:Nat} {a:α} (ha:G a) (hij:k < j):O1 G k [a] j:=⟨fun x hx=>by simp at hx; subst hx; exact ha,by simp; omega⟩
def tB (j:Nat) (q:PQ):Prop:=q.left.length ≤ j ∧ (∀ x ∈ q.left,x.1.length ≤ 30) ∧ Fit q.e ∧ Gj q.e ≤ j
theorem tB.mono {i j:Nat} {q:PQ} (h:tB i q) (hij:i ≤ j):tB j q:=⟨Nat.le_trans h.1 hij,h.2.1,h.2.2.1,Nat.le_trans h.2.2.2 hij⟩
def Za (j:Nat) (n:PN):Prop:=(n.ins.length ≤ j ∧ ∀ x ∈ n.ins,R5 x) ∧ (n.outs.length ≤ j ∧ ∀ x ∈ n.outs,R5 x) ∧ (n.vars.length ≤ j ∧ ∀ x ∈ n.vars,R5 x) ∧ n.eqs.length ≤ j ∧ (∀ q ∈ n.eqs,tB j q) ∧ n.name.length ≤ 30
theorem Za.mono {i j:Nat} {n:PN} (h:Za i n) (hij:i ≤ j):Za j n:=⟨⟨Nat.le_trans h.1.1 hij,h.1.2⟩,⟨Nat.le_trans h.2.1.1 hij,h.2.1.2⟩,⟨Nat.le_trans h.2.2.1.1 hij,h.2.2.1.2⟩,Nat.le_trans h.2.2.2.1 hij,fun q hq=>(h.2.2.2.2.1 q hq).mono hij,h.2.2.2.2.2⟩
section
variable {ts:List Tk} (hts:xE ts)
include hts
omit hts in
omit hts in
omit hts in
end
end Go.Ax
noncomputable section
namespace Go.Ax
open Go.RowKit Go.Proofs
set_option maxRecDepth 100000
theorem fI {a b:PE} (h:LikeE a b):Dh a=Dh b ∧ I4 a=I4 b:=by cases h; exact ⟨rfl,rfl⟩
mutual
theorem X4:∀ {a b:PE},LikeE a b → Dz a=Dz b
 | _,_,.mk kind _ _ n name off l m h=>by
  show Md kind n name off (De l)=Md kind n name off (De m)
  rw [jK h]
theorem jK:∀ {l m:List PE},LikeL l m → De l=De m
 | _,_,.nil=>rfl
 | _,_,.cons a b l m h h2=>by
  show (⟨Dz a,Dh a,I4 a⟩:KI) :: De l=⟨Dz b,Dh b,I4 b⟩ :: De m
  rw [X4 h,jK h2,(fI h).1,(fI h).2]
end
theorem Each2.len {α β:Type} {R:α → β → Prop}:∀ {l:List α} {m:List β},Each2 R l m → l.length=m.length
 | _,_,.nil=>rfl
 | _,_,.cons a b l m h h2=>by rw [List.length_cons,List.length_cons,h2.len]
theorem Each2.mem {α β:Type} {R:α → β → Prop}:∀ {l:List α} {m:List β},Each2 R l m → ∀ b ∈ m,∃ a ∈ l,R a b
 | _,_,.cons a b l m h h2,x,hx=>by
  rcases List.mem_cons.1 hx with rfl | hx
  ·exact ⟨a,List.mem_cons_self ..,h⟩
  ·obtain ⟨y,hy,hr⟩:=h2.mem x hx
   exact ⟨y,List.mem_cons_of_mem _ hy,hr⟩
mutual
theorem dY:∀ {a b:PE},LikeE a b → Fit a → Fit b ∧ Gj b=Gj a
 | _,_,.mk kind _ _ n name off l m h,hf=>by
  obtain ⟨hn,hm,hk⟩:(-9223372036854775808 ≤ n ∧ n ≤ 9223372036854775807) ∧ name.length ≤ 30 ∧ (∀ e ∈ l,Fit e):=by cases hf; exact ⟨‹_›,‹_›,‹_›⟩
  obtain ⟨q1,q2⟩:=jY h hk
  exact ⟨.mk _ _ _ _ _ _ hn hm q1,by rw [Iz,Iz,q2]⟩
theorem jY:∀ {l m:List PE},LikeL l m → (∀ e ∈ l,Fit e) → (∀ e ∈ m,Fit e) ∧ Gj.sizeL m=Gj.sizeL l
 | _,_,.nil,_=>⟨fun e h=>(by cases h),rfl⟩
 | _,_,.cons a b l m h h2,hf=>by
  obtain ⟨q1,q2⟩:=dY h (hf a (List.mem_cons_self ..))
  obtain ⟨q3,q4⟩:=jY h2 (fun e he=>hf e (List.mem_cons_of_mem _ he))
  exact ⟨fun e he=>by rcases List.mem_cons.1 he with rfl | he; exact q1; exact q3 e he,by rw [Ge,Ge,q2,q4]⟩
end
end Go.Ax
noncomputable section
namespace Go.Ax
open Go.RowKit
mutual
def clean:AV → AV
 | .sl _ _ sz es=>.sl 0 0 sz (Hy es)
 | .agg cs=>.agg (Hy cs)
 | .tup vs=>.tup (Hy vs)
 | .v x=>.v x
 | .nilp=>.nilp
 | .nils=>.nils
 | .nilm=>.nilm
 | .ptr a b=>.ptr a b
 | .ep cs=>.ep cs
 | .map id=>.map id
 | .fn f a b=>.fn f a b
 | .iface t x=>.iface t x
 | .bs a b c d=>.bs a b c d
def Hy:List AV → List AV
 | []=>[]
 | a :: r=>clean a :: Hy r
end
mutual
def Kk:AV → Bool
 | .sl _ _ _ es=>Ix es
 | .agg cs=>Ix cs
 | .tup vs=>Ix vs
 | .v _=>true
 | .nilp=>true
 | .nils=>true
 | .nilm=>true
 | .ptr _ _=>false
 | .ep _=>false
 | .map _=>false
 | .fn _ _ _=>false
 | .iface _ _=>false
 | .bs _ _ _ _=>false
def Ix:List AV → Bool
 | []=>true
 | a :: r=>Kk a && Ix r
end
theorem Nu:∀ es,Hy es=es.map clean
 | []=>rfl
 | a :: r=>by rw [Hy,Nu r]; rfl
theorem Q3:∀ {es},Ix es=true → ∀ a ∈ es,Kk a=true
 | [],_,a,h=>by cases h
 | b :: r,h,a,ha=>by
  rw [Ix,Bool.and_eq_true] at h
  rcases List.mem_cons.1 ha with rfl | ha
  ·exact h.1
  ·exact Q3 h.2 a ha
theorem kQ (a:AV):(clean a).one=a.one:=by cases a <;> rfl
theorem Z1 (a:AV):(clean a).cells=a.cells.map clean:=by
 cases a <;> first | rfl | skip
 ·show Hy _=_; rw [Nu]; rfl
theorem Rw:∀ es:List AV,Ec (es.map clean)=(Ec es).map clean
 | []=>rfl
 | a :: r=>by
  unfold Ec
  rw [List.map_cons,List.flatMap_cons,List.flatMap_cons,List.map_append,Z1]
  have:=Rw r
  unfold Ec at this
  rw [this]
theorem rT {a:AV} (h:Kk a=true):∀ c ∈ a.cells,Kk c=true:=by
 cases a with
 | agg cs=>exact Q3 h
 | _=>intro c hc; simp only [AV.cells,List.mem_cons,List.not_mem_nil,or_false] at hc; subst hc; exact h
theorem free_flat {es:List AV} (h:Ix es=true):∀ c ∈ Ec es,Kk c=true:=by
 intro c hc
 unfold Ec at hc
 rw [List.mem_flatMap] at hc
 obtain ⟨e,he,hce⟩:=hc
 exact rT (Q3 h e he) c hce
theorem VR.clean {γ γ':Gh} {w:World} (him:∀ b o,γ.im b o → γ'.im b o) {a:AV} {x:Value} (h:VR γ w a x):Kk a=true → VR γ' w (Go.Ax.clean a) x:=by
 induction h with
 | v x h=>intro _; exact .v x h
 | nilp=>intro _; exact .nilp
 | ptr id off b s h=>intro hf; cases hf
 | ep cs b o c h h1 hr ih=>intro hf; cases hf
 | nils=>intro _; exact .nils
 | sl tok off sz es b o cap c hsz hes h1 h hr ht hf2 hc hb ih =>
  intro hf
  have hf:Ix es=true:=hf
  show VR γ' w (.sl 0 0 sz (Hy es)) _
  rw [Nu]
  have hlen:(Ec (es.map Go.Ax.clean)).length=(Ec es).length:=by rw [Rw,List.length_map]
  have key:=VR.sl (γ:=γ') (w:=w) 0 0 sz (es.map Go.Ax.clean) b o cap c hsz (fun e he=>by
    obtain ⟨e',he',rfl⟩:=List.mem_map.1 he
    rw [Z1,List.length_map]; exact hes e' he') (fun y hy=>by
    rw [Rw] at hy
    obtain ⟨y',hy',rfl⟩:=List.mem_map.1 hy
    rw [kQ]; exact h1 y' hy') (fun k hk=>⟨him _ _ (h k (by rw [← hlen]; exact hk)).1,(h k (by rw [← hlen]; exact hk)).2⟩) (fun k hk=>by
    have hk':k < (Ec es).length:=by rw [← hlen]; exact hk
    have:=ih k hk' (free_flat hf _ (List.getElem_mem hk'))
    have e:(Ec (es.map Go.Ax.clean))[k]=Go.Ax.clean (Ec es)[k]:=by
     simp only [Rw,List.getElem_map]
    rw [e]; exact this) (fun h=>by omega) (fun h=>by omega) (by rw [List.length_map]; exact hc) hb
  rw [List.length_map] at key
  exact key
 | nilm=>intro _; exact .nilm
 | map id b s h=>intro hf; cases hf
 | fn f first caps x y hx hy h1 h2 ih1 ih2=>intro hf; cases hf
 | iface t a x h ih=>intro hf; cases hf
 | agg cs x hx h1 h ih =>
  intro hf
  have hf:Ix cs=true:=hf
  show VR γ' w (.agg (Hy cs)) _
  rw [Nu]
  refine .agg _ x (by rw [hx,List.length_map]) (fun a ha=>?_) (fun k hk hk'=>?_)
  ·obtain ⟨a',ha',rfl⟩:=List.mem_map.1 ha
   rw [kQ]; exact h1 a' ha'
  ·rw [List.getElem_map]
   have hk2:k < cs.length:=by rw [List.length_map] at hk; exact hk
   exact ih k hk2 hk' (Q3 hf _ (List.getElem_mem hk2))
 | tup vs x hx h ih =>
  intro hf
  have hf:Ix vs=true:=hf
  show VR γ' w (.tup (Hy vs)) _
  rw [Nu]
  refine .tup _ x (by rw [hx,List.length_map]) (fun k hk hk'=>?_)
  rw [List.getElem_map]
  have hk2:k < vs.length:=by rw [List.length_map] at hk; exact hk
  exact ih k hk2 hk' (Q3 hf _ (List.getElem_mem hk2))
 | bs id off n2 sz b s cap h hc hsz hb=>intro hf; cases hf
def Gh.more (γ γ1:Gh):Gh:={ γ with im:=fun b o=>γ.im b o ∨ γ1.im b o }
theorem SR.more {base:Nat} {w0 w w':World} {γ γ1:Gh} {S:St} (h:SR base w0 γ S w) (hb:Below w.heap.size w w') (hi:∀ b o,γ1.im b o → w.heap.size ≤ b ∧ ∃ v,w'.cell? ⟨b,o,none⟩=some v):SR base w0 (γ.more γ1) S w' ∧ Ext γ S w (γ.more γ1) S w':=by
 have hc:∀ b o v,w.cell? ⟨b,o,none⟩=some v → w'.cell? ⟨b,o,none⟩=some v:=fun b o v hv=>(hb.cell (World.block_lt_of_cell? w _ hv)).trans hv
 have ev:Ev γ w (γ.more γ1) w':=⟨fun _ _ h=>h,fun _ _ h=>.inl h,fun b o v _ hv=>hc b o v hv,fun b arr T fr ha=>⟨arr,fr,(hb.block b (Array.getElem?_eq_some_iff.1 ha).1).trans ha,rfl⟩⟩
 have him:∀ b,b < w.heap.size → ∀ o,(γ.more γ1).im b o → γ.im b o:=fun b hlt o ho=>ho.elim id (fun h=>by have:=(hi b o h).1; omega)
 refine ⟨⟨h.below.trans (hb.mono h.hbase),Nat.le_trans h.hbase hb.size,fun b o ho=>?_,h.fresh,h.pos,fun id b s e=>Nat.lt_of_lt_of_le (h.inb id b s e) hb.size,fun id c e=>?_,h.inj⟩,
  ⟨ev,Nat.le_refl _,fun _ _=>rfl,hb.size,fun id c b s h l=>.inr ⟨id,c,s,h,l⟩,fun b hl _=>⟨hb.block b hl,him b hl⟩⟩⟩
 ·rcases ho with ho | ho
  ·obtain ⟨v,hv⟩:=h.imc b o ho; exact ⟨v,hc b o v hv⟩
  ·exact (hi b o ho).2
 ·obtain ⟨b,s,h1,h2,h3⟩:=h.live id c e
  exact ⟨b,s,h1,h2,h3.keep ev (hb.block b (h.inb id b s h1)) (fun o=>him b (h.inb id b s h1) o)⟩
def Lj:R → Option AV
 | .ret a _=>Bool.rec none (some (clean a)) (Kk a)
 | _=>none
end Go.Ax
