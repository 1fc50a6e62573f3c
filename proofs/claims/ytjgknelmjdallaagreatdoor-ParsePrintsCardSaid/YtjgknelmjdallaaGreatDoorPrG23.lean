/- Rk -/
import Derived.Test.YtjgknelmjdallaaGreatDoorPrG22
set_option linter.unusedVariables false
set_option linter.unusedSimpArgs false
noncomputable section
namespace Go.Ax
open Go.RowKit Go.Proofs
set_option maxRecDepth 100000
theorem fmt_w (n:Int) (h:-9223372036854775808 ≤ n ∧ n ≤ 9223372036854775807) (S:St):WC E6 48 [.v (.int .i64 n),.v (.int .i64 10)] S (fun r=>r=.ret (Cj (Lib.itoa n)) S):=by
 refine Nq (g:=F3 qD) (by kernel_rfl) ?_
 have e:qD [.v (.int .i64 n),.v (.int .i64 10)]=some (Cj (Lib.itoa n)):=by
  unfold qD
  simp only
  rw [if_pos h]
 show F3 qD _ S=_
 unfold F3
 rw [e]
theorem Z0 (name:List UInt8) (off:Bool):(O7 name off).length ≤ 10 + name.length:=by
 unfold O7; split <;> simp only [List.length_append,List.length_cons,List.length_nil] <;> omega
theorem beqA_bool (b:Bool):Hi (.v (.bool b)) (.v (.bool b))=true:=by cases b <;> rfl
theorem gW:∀ (l:List PE),l.length ≤ Gr.sizeL l
 | []=>Nat.zero_le _
 | e :: r=>by
  have:=gW r
  rw [Gi]
  have h1:1 ≤ Gr e:=by cases e; rw [J1]; omega
  simp; omega
theorem nH:∀ {l:List PE} {e:PE},e ∈ l → Gr e ≤ Gr.sizeL l
 | a :: r,e,h=>by
  rw [Gi]
  rcases List.mem_cons.1 h with rfl | h
  ·omega
  ·have:=nH h; omega
set_option maxHeartbeats 16000000 in
theorem text_w:∀ {e:PE},Fit e → Gr e ≤ 1000000 → Sv e:=fun {e} hfit=>by
 induction hfit with
 | mk kind pos n name off kids hn hnm hkf ih =>
 intro hsz ys hr S hn2
 rw [J1] at hsz
 have hok:∀ e ∈ kids,Sv e:=fun e he=>ih e he (by have:=nH he; omega)
 have hlen:kids.length ≤ 1000000:=by have:=gW kids; omega
 have hz:L7 (Cx kids) ≤ 1000000000:=by have:=Wy kids hkf; omega
 cases hr with
 | mk _ _ _ _ _ kv _ hk =>
 refine Dt Tryz.f17 (by kernel_rfl) (by kernel_rfl) (by kernel_rfl) (show (_:Nat) ≤ _ from by show (_:Nat) ≤ _; simp [Tryz.f17]) ?_
 obtain ⟨fn48,hf48⟩:=fn6_48
 obtain ⟨fn49,hf49⟩:=fn6_49
 obtain ⟨fn50,hf50⟩:=fn6_50
 obtain ⟨fn51,hf51⟩:=lT
 obtain ⟨fn52,hf52⟩:=fn6_52
 obtain ⟨fn53,hf53⟩:=fn6_53
 obtain ⟨fn54,hf54⟩:=fn6_54
 obtain ⟨fn55,hf55⟩:=fn6_55
 have g1:=Do S (exC kind pos n name off kv)
 have k1:=Dp S (exC kind pos n name off kv)
 have lt1:S.next < (S.newBox (exC kind pos n name off kv)).next:=Nat.lt_succ_self _
 generalize hS1:S.newBox (exC kind pos n name off kv)=S1 at g1 k1 lt1
 have l0:Cv Tryz.prog S1 30 (.ptr S.next 0)=some (.agg (exC kind pos n name off kv)):=ld30 g1 rfl
 have lk:=ld3e g1
 have lN:=lxN g1
 have lName:=Io g1
 have lOff:=Pe g1
 have n1:2 ≤ S1.next:=Nat.le_trans hn2 k1.1
 have rf:N0 (exC kind pos n name off kv) (exC kind pos n name off kv)=true:=dK (.mk kind pos n name off kv kids hk)
 have rf2:Hi (.agg (exC kind pos n name off kv)) (.agg (exC kind pos n name off kv))=true:=(RepE.mk kind pos n name off kv kids hk).refl
 by_cases h1:kind=1
 ·subst h1
  have e1:(((1:Nat):Int) == 1)=true:=rfl
  simp only [Br,A8,Cu,Bj,Bp,B3,By,A6,Cb,Ca,Cl,Bl,A9,Bo,B6,Bn,C6,A4,Bd,Bc,B7,A0,A1,Bm,Bz,ofOpt,Be,B5,Bi,B0,Bg,Cd,Ci,Db,Nat.reduceLT,Nat.reduceEqDiff,Aa,Ab,Ac,Ae,Aj,Ak,Am,Ed,G8,Tryz.f17,hS1,Cm,Cn,fe0,fe2,fe3,hf48,hf49,hf50,hf51,hf52,hf55,l0,lk,lN,lName,Cj,e1]
  refine WC.mono (fmt_w n hn S1) ?_
  rintro _ rfl
  simp only [By,A6,Cb,Cl,Bl,A9,Bo,Bn,Cz,A4,Bd,Bc,A0,A1,ofOpt,Bi,B0,Bg,Cd,Nat.reduceLT,Nat.reduceEqDiff,Aa,Ab,Ac,Cj]
  exact ⟨_,rfl,k1⟩
 by_cases h2:kind=2
 ·subst h2
  have e1:(((2:Nat):Int) == 1)=false:=rfl
  have e2:(((2:Nat):Int) == 2)=true:=rfl
  by_cases h0:n=0
  ·have en:(n != 0)=false:=by simp [h0]
   simp only [Br,A8,Cu,Bj,Bp,B3,By,A6,Cb,Ca,Cl,Bl,A9,Bo,B6,Bn,C6,Dh,A4,Bd,Bc,B7,A0,A1,Bm,Bz,ofOpt,Be,B5,Bi,B0,Bg,Cd,Ci,Db,Nat.reduceLT,Nat.reduceEqDiff,Aa,Ab,Ac,Ae,Aj,Ak,Am,Ed,G8,Tryz.f17,hS1,Cm,Cn,fe0,fe2,fe3,hf48,hf49,hf50,hf51,hf52,hf55,l0,lk,lN,lName,Cj,e1,e2,en]
   refine WC.mono (iE false S1) ?_
   rintro _ rfl
   simp only [By,A6,Cb,Cl,Bl,A9,Bo,Bn,Cz,A4,Bd,Bc,A0,A1,ofOpt,Bi,B0,Bg,Cd,Nat.reduceLT,Nat.reduceEqDiff,Aa,Ab,Ac,Am,Cj]
   exact ⟨_,by subst h0; rfl,k1⟩
  ·have en:(n != 0)=true:=by simp [h0]
   simp only [Br,A8,Cu,Bj,Bp,B3,By,A6,Cb,Ca,Cl,Bl,A9,Bo,B6,Bn,C6,Dh,A4,Bd,Bc,B7,A0,A1,Bm,Bz,ofOpt,Be,B5,Bi,B0,Bg,Cd,Ci,Db,Nat.reduceLT,Nat.reduceEqDiff,Aa,Ab,Ac,Ae,Aj,Ak,Am,Ed,G8,Tryz.f17,hS1,Cm,Cn,fe0,fe2,fe3,hf48,hf49,hf50,hf51,hf52,hf55,l0,lk,lN,lName,Cj,e1,e2,en]
   refine WC.mono (iE true S1) ?_
   rintro _ rfl
   simp only [By,A6,Cb,Cl,Bl,A9,Bo,Bn,Cz,A4,Bd,Bc,A0,A1,ofOpt,Bi,B0,Bg,Cd,Nat.reduceLT,Nat.reduceEqDiff,Aa,Ab,Ac,Cj]
   exact ⟨_,by rw [show Fz (.mk 2 pos n name off kids)=[116,114,117,101] from if_neg h0],k1⟩
 by_cases h3:kind=3
 ·subst h3
  have e1:(((3:Nat):Int) == 1)=false:=rfl
  have e2:(((3:Nat):Int) == 2)=false:=rfl
  have e3:(((3:Nat):Int) == 3)=true:=rfl
  simp only [Br,A8,Cu,Bj,Bp,B3,By,A6,Cb,Ca,Cl,Bl,A9,Bo,B6,Bn,C6,Dh,A4,Bd,Bc,B7,A0,A1,Bm,Bz,ofOpt,Be,B5,Bi,B0,Bg,Cd,Ci,Db,Nat.reduceLT,Nat.reduceEqDiff,Aa,Ab,Ac,Ae,Aj,Ak,Am,Ed,G8,Tryz.f17,hS1,Cm,Cn,fe0,fe2,fe3,hf48,hf49,hf50,hf51,hf52,hf55,l0,lk,lN,lName,Cj,e1,e2,e3]
  exact ⟨_,rfl,k1⟩
 by_cases h4:kind=4
 ·subst h4
  have e1:(((4:Nat):Int) == 1)=false:=rfl
  have e2:(((4:Nat):Int) == 2)=false:=rfl
  have e3:(((4:Nat):Int) == 3)=false:=rfl
  have e4:(((4:Nat):Int) == 4)=true:=rfl
  simp only [Br,A8,Cu,Bj,Bp,B3,By,A6,Cb,Ca,Cl,Bl,A9,Bo,B6,Bn,C6,Dh,A4,Bd,Bc,B7,A0,A1,Bm,Bz,ofOpt,Be,B5,Bi,B0,Bg,Cd,Ci,Db,Nat.reduceLT,Nat.reduceEqDiff,Aa,Ab,Ac,Ae,Aj,Ak,Am,Ed,G8,Tryz.f17,hS1,Cm,Cn,fe0,fe2,fe3,hf48,hf49,hf50,hf51,hf52,hf55,l0,lk,lN,lName,Cj,e1,e2,e3,e4]
  refine WC.mono (neg_w (kind:=4) (pos:=pos) (n:=n) (name:=name) (off:=off) hk hlen hok hz S1 n1) ?_
  rintro _ ⟨S2,rfl,k2⟩
  simp only [By,A6,Cb,Cl,Bl,A9,Bo,Bn,Cz,A4,Bd,Bc,A0,A1,ofOpt,Bi,B0,Bg,Cd,Nat.reduceLT,Nat.reduceEqDiff,Aa,Ab,Ac,Cj]
  exact ⟨_,rfl,k1.trans k2⟩
 by_cases h5:kind=5
 ·subst h5
  have e1:(((5:Nat):Int) == 1)=false:=rfl
  have e2:(((5:Nat):Int) == 2)=false:=rfl
  have e3:(((5:Nat):Int) == 3)=false:=rfl
  have e4:(((5:Nat):Int) == 4)=false:=rfl
  have e5:(((5:Nat):Int) == 5)=true:=rfl
  have hl:=Sa (Cx kids) 0 4
  have q0:=D7 ([110,111,116,32]) (kT (Cx kids) 0 4) (by first | omega | (simp only [List.length_append,List.length_cons,List.length_nil]; omega))
  simp only [Br,A8,Cu,Bj,Bp,B3,By,A6,Cb,Ca,Cl,Bl,A9,Bo,B6,Bn,C6,Dh,A4,Bd,Bc,B7,A0,A1,Bm,Bz,ofOpt,Be,B5,Bi,B0,Bg,Cd,Ci,Db,Nat.reduceLT,Nat.reduceEqDiff,Aa,Ab,Ac,Ae,Aj,Ak,Am,Ed,G8,Tryz.f17,hS1,Cm,Cn,fe0,fe2,fe3,hf48,hf49,hf50,hf51,hf52,hf55,l0,lk,lN,lName,Cj,e1,e2,e3,e4,e5]
  refine WC.mono (Mb (kind:=5) (pos:=pos) (n:=n) (name:=name) (off:=off) hk (by omega) 0 4 hok hz S1 (by exact n1)) ?_
  rintro _ ⟨S2,rfl,k2⟩
  have g2:S2.mem.get S.next=some (.box (exC 5 pos n name off kv)):=(k2.2 _ lt1).trans g1
  have lt2:S.next < S2.next:=Nat.lt_of_lt_of_le lt1 k2.1
  have a2:Cv Tryz.prog S2 30 (.ptr S.next 0)=some (.agg (exC 5 pos n name off kv)):=ld30 g2 rfl
  have b2:=Io g2
  have c2:=Pe g2
  simp only [By,A6,Cb,Cl,Bl,A9,Bo,Bn,Cz,A4,Bd,Bc,A0,A1,ofOpt,Be,Bi,B0,Bg,Cd,Nat.reduceLT,Nat.reduceEqDiff,Aa,Ab,Ac,Am,Ed,Dg,Cj,q0]
  exact ⟨_,rfl,(k1).trans k2⟩
 by_cases h6:kind=6
 ·subst h6
  have e1:(((6:Nat):Int) == 1)=false:=rfl
  have e2:(((6:Nat):Int) == 2)=false:=rfl
  have e3:(((6:Nat):Int) == 3)=false:=rfl
  have e4:(((6:Nat):Int) == 4)=false:=rfl
  have e5:(((6:Nat):Int) == 5)=false:=rfl
  have e6:(((6:Nat):Int) == 6)=true:=rfl
  simp only [Br,A8,Cu,Bj,Bp,B3,By,A6,Cb,Ca,Cl,Bl,A9,Bo,B6,Bn,C6,Dh,A4,Bd,Bc,B7,A0,A1,Bm,Bz,ofOpt,Be,B5,Bi,B0,Bg,Cd,Ci,Db,Nat.reduceLT,Nat.reduceEqDiff,Aa,Ab,Ac,Ae,Aj,Ak,Am,Ed,G8,Tryz.f17,hS1,Cm,Cn,fe0,fe2,fe3,hf48,hf49,hf50,hf51,hf52,hf55,l0,lk,lN,lName,Cj,e1,e2,e3,e4,e5,e6]
  refine WC.mono (bin6_w (kind:=6) (pos:=pos) (n:=n) (name:=name) (off:=off) hk hlen hok hz hnm S1 n1) ?_
  rintro _ ⟨S2,rfl,k2⟩
  simp only [By,A6,Cb,Cl,Bl,A9,Bo,Bn,Cz,A4,Bd,Bc,A0,A1,ofOpt,Bi,B0,Bg,Cd,Nat.reduceLT,Nat.reduceEqDiff,Aa,Ab,Ac,Cj]
  exact ⟨_,rfl,k1.trans k2⟩
 by_cases h7:kind=7
 ·subst h7
  have e1:(((7:Nat):Int) == 1)=false:=rfl
  have e2:(((7:Nat):Int) == 2)=false:=rfl
  have e3:(((7:Nat):Int) == 3)=false:=rfl
  have e4:(((7:Nat):Int) == 4)=false:=rfl
  have e5:(((7:Nat):Int) == 5)=false:=rfl
  have e6:(((7:Nat):Int) == 6)=false:=rfl
  have e7:(((7:Nat):Int) == 7)=true:=rfl
  have hl:=pG (Cx kids) 0 0 0
  have q0:=D7 ([105,102,32]) (kT (Cx kids) 0 0) (by first | omega | (simp only [List.length_append,List.length_cons,List.length_nil]; omega))
  have q1:=D7 (([105,102,32]) ++ kT (Cx kids) 0 0) ([32,116,104,101,110,32]) (by first | omega | (simp only [List.length_append,List.length_cons,List.length_nil]; omega))
  have q2:=D7 ((([105,102,32]) ++ kT (Cx kids) 0 0) ++ [32,116,104,101,110,32]) (kT (Cx kids) 1 0) (by first | omega | (simp only [List.length_append,List.length_cons,List.length_nil]; omega))
  have q3:=D7 (((([105,102,32]) ++ kT (Cx kids) 0 0) ++ [32,116,104,101,110,32]) ++ kT (Cx kids) 1 0) ([32,101,108,115,101,32]) (by first | omega | (simp only [List.length_append,List.length_cons,List.length_nil]; omega))
  have q4:=D7 ((((([105,102,32]) ++ kT (Cx kids) 0 0) ++ [32,116,104,101,110,32]) ++ kT (Cx kids) 1 0) ++ [32,101,108,115,101,32]) (kT (Cx kids) 2 0) (by first | omega | (simp only [List.length_append,List.length_cons,List.length_nil]; omega))
  simp only [Br,A8,Cu,Bj,Bp,B3,By,A6,Cb,Ca,Cl,Bl,A9,Bo,B6,Bn,C6,Dh,A4,Bd,Bc,B7,A0,A1,Bm,Bz,ofOpt,Be,B5,Bi,B0,Bg,Cd,Ci,Db,Nat.reduceLT,Nat.reduceEqDiff,Aa,Ab,Ac,Ae,Aj,Ak,Am,Ed,G8,Tryz.f17,hS1,Cm,Cn,fe0,fe2,fe3,hf48,hf49,hf50,hf51,hf52,hf55,l0,lk,lN,lName,Cj,e1,e2,e3,e4,e5,e6,e7]
  refine Jj [(0,true),(4,true),(8,true),(1,true),(8,false),(4,false),(2,true),(3,true),(5,true),(8,false),(6,true),(7,true),(9,true),(10,true),(11,true)] (by kernel_rfl) (by kernel_rfl) ?_
  simp only [A4,Bd,Bc,A0,A1,Bm,Bz,ofOpt,Be,Nat.reduceLT,Nat.reduceEqDiff,Aa,Ab,Ac,Af,Ag,Ah,Aj,Ak,Am,Ed,hf51,l0,Dz,Eg,E5,D0,Hs]
  refine WC.mono (Mb (kind:=7) (pos:=pos) (n:=n) (name:=name) (off:=off) hk (by omega) 0 0 hok hz S1 (by exact n1)) ?_
  rintro _ ⟨S2,rfl,k2⟩
  have g2:S2.mem.get S.next=some (.box (exC 7 pos n name off kv)):=(k2.2 _ lt1).trans g1
  have lt2:S.next < S2.next:=Nat.lt_of_lt_of_le lt1 k2.1
  have a2:Cv Tryz.prog S2 30 (.ptr S.next 0)=some (.agg (exC 7 pos n name off kv)):=ld30 g2 rfl
  have b2:=Io g2
  have c2:=Pe g2
  simp only [A4,Bd,Bc,A0,A1,Bm,Bz,ofOpt,Be,Nat.reduceLT,Nat.reduceEqDiff,Aa,Ab,Ac,Aj,Ak,Am,Ed,Dg,hf51,rf2,Cj,a2,q0,q1,Dz,L5,Eg,E5,D0,Fy,Dy,Ei]
  refine WC.mono (Mb (kind:=7) (pos:=pos) (n:=n) (name:=name) (off:=off) hk (by omega) 1 0 hok hz S2 (by have:=k2.1; omega)) ?_
  rintro _ ⟨S3,rfl,k3⟩
  have g3:S3.mem.get S.next=some (.box (exC 7 pos n name off kv)):=(k3.2 _ lt2).trans g2
  have lt3:S.next < S3.next:=Nat.lt_of_lt_of_le lt2 k3.1
  have a3:Cv Tryz.prog S3 30 (.ptr S.next 0)=some (.agg (exC 7 pos n name off kv)):=ld30 g3 rfl
  have b3:=Io g3
  have c3:=Pe g3
  simp only [A4,Bd,Bc,A0,A1,Bm,Bz,ofOpt,Be,Nat.reduceLT,Nat.reduceEqDiff,Aa,Ab,Ac,Aj,Ak,Am,Ed,Dg,hf51,rf2,Cj,a3,q2,q3,Dz,L5,Eg,E5,D0,Fy,Dy,Ei]
  refine WC.mono (Mb (kind:=7) (pos:=pos) (n:=n) (name:=name) (off:=off) hk (by omega) 2 0 hok hz S3 (by have:=k2.1; have:=k3.1; omega)) ?_
  rintro _ ⟨S4,rfl,k4⟩
  have g4:S4.mem.get S.next=some (.box (exC 7 pos n name off kv)):=(k4.2 _ lt3).trans g3
  have lt4:S.next < S4.next:=Nat.lt_of_lt_of_le lt3 k4.1
  have a4:Cv Tryz.prog S4 30 (.ptr S.next 0)=some (.agg (exC 7 pos n name off kv)):=ld30 g4 rfl
  have b4:=Io g4
  have c4:=Pe g4
  simp only [By,A6,Cb,Cl,A4,Bd,Bc,A0,A1,ofOpt,Bi,B0,Bg,Cd,Nat.reduceLT,Nat.reduceEqDiff,Aa,Ab,Ac,Am,Ed,Dg,Cj,q4,Fw,Dz,Eg,D0,Fy,Gy]
  exact ⟨_,rfl,(((k1).trans k2).trans k3).trans k4⟩
 by_cases h8:kind=8
 ·subst h8
  have e1:(((8:Nat):Int) == 1)=false:=rfl
  have e2:(((8:Nat):Int) == 2)=false:=rfl
  have e3:(((8:Nat):Int) == 3)=false:=rfl
  have e4:(((8:Nat):Int) == 4)=false:=rfl
  have e5:(((8:Nat):Int) == 5)=false:=rfl
  have e6:(((8:Nat):Int) == 6)=false:=rfl
  have e7:(((8:Nat):Int) == 7)=false:=rfl
  have e8:(((8:Nat):Int) == 8)=true:=rfl
  have hl:=Xl (Cx kids) 2 1
  have q0:=D7 (kT (Cx kids) 0 2) ([32,45,62,32]) (by first | omega | (simp only [List.length_append,List.length_cons,List.length_nil]; omega))
  have q1:=D7 ((kT (Cx kids) 0 2) ++ [32,45,62,32]) (kT (Cx kids) 1 1) (by first | omega | (simp only [List.length_append,List.length_cons,List.length_nil]; omega))
  simp only [Br,A8,Cu,Bj,Bp,B3,By,A6,Cb,Ca,Cl,Bl,A9,Bo,B6,Bn,C6,Dh,A4,Bd,Bc,B7,A0,A1,Bm,Bz,ofOpt,Be,B5,Bi,B0,Bg,Cd,Ci,Db,Nat.reduceLT,Nat.reduceEqDiff,Aa,Ab,Ac,Ae,Aj,Ak,Am,Ed,G8,Tryz.f17,hS1,Cm,Cn,fe0,fe2,fe3,hf48,hf49,hf50,hf51,hf52,hf55,l0,lk,lN,lName,Cj,e1,e2,e3,e4,e5,e6,e7,e8]
  refine Jj [(0,true),(3,true),(1,true),(3,false),(2,true),(4,true),(5,true),(6,true)] (by kernel_rfl) (by kernel_rfl) ?_
  simp only [A4,Bd,Bc,A0,A1,Bm,Bz,ofOpt,Be,Nat.reduceLT,Nat.reduceEqDiff,Aa,Ab,Ac,Af,Ag,Ah,Aj,Ak,Am,Ed,hf51,l0,Dz,Eg,E5,D0,Hs]
  refine WC.mono (Mb (kind:=8) (pos:=pos) (n:=n) (name:=name) (off:=off) hk (by omega) 0 2 hok hz S1 (by exact n1)) ?_
  rintro _ ⟨S2,rfl,k2⟩
  have g2:S2.mem.get S.next=some (.box (exC 8 pos n name off kv)):=(k2.2 _ lt1).trans g1
  have lt2:S.next < S2.next:=Nat.lt_of_lt_of_le lt1 k2.1
  have a2:Cv Tryz.prog S2 30 (.ptr S.next 0)=some (.agg (exC 8 pos n name off kv)):=ld30 g2 rfl
  have b2:=Io g2
  have c2:=Pe g2
  simp only [A4,Bd,Bc,A0,A1,Bm,Bz,ofOpt,Be,Nat.reduceLT,Nat.reduceEqDiff,Aa,Ab,Ac,Aj,Ak,Am,Ed,Dg,hf51,rf2,Cj,a2,q0,Dz,L5,Eg,E5,D0,Fy,Dy,Ei]
  refine WC.mono (Mb (kind:=8) (pos:=pos) (n:=n) (name:=name) (off:=off) hk (by omega) 1 1 hok hz S2 (by have:=k2.1; omega)) ?_
  rintro _ ⟨S3,rfl,k3⟩
  have g3:S3.mem.get S.next=some (.box (exC 8 pos n name off kv)):=(k3.2 _ lt2).trans g2
  have lt3:S.next < S3.next:=Nat.lt_of_lt_of_le lt2 k3.1
  have a3:Cv Tryz.prog S3 30 (.ptr S.next 0)=some (.agg (exC 8 pos n name off kv)):=ld30 g3 rfl
  have b3:=Io g3
  have c3:=Pe g3
  simp only [By,A6,Cb,Cl,A4,Bd,Bc,A0,A1,ofOpt,Bi,B0,Bg,Cd,Nat.reduceLT,Nat.reduceEqDiff,Aa,Ab,Ac,Am,Ed,Dg,Cj,q1,Fw,Dz,Eg,D0,Fy,Gy]
  exact ⟨_,rfl,((k1).trans k2).trans k3⟩
 by_cases h9:kind=9
 ·subst h9
  have e1:(((9:Nat):Int) == 1)=false:=rfl
  have e2:(((9:Nat):Int) == 2)=false:=rfl
  have e3:(((9:Nat):Int) == 3)=false:=rfl
  have e4:(((9:Nat):Int) == 4)=false:=rfl
  have e5:(((9:Nat):Int) == 5)=false:=rfl
  have e6:(((9:Nat):Int) == 6)=false:=rfl
  have e7:(((9:Nat):Int) == 7)=false:=rfl
  have e8:(((9:Nat):Int) == 8)=false:=rfl
  have e9:(((9:Nat):Int) == 9)=true:=rfl
  have hl:=Xl (Cx kids) 0 1
  have q0:=D7 (kT (Cx kids) 0 0) ([32,102,98,121,32]) (by first | omega | (simp only [List.length_append,List.length_cons,List.length_nil]; omega))
  have q1:=D7 ((kT (Cx kids) 0 0) ++ [32,102,98,121,32]) (kT (Cx kids) 1 1) (by first | omega | (simp only [List.length_append,List.length_cons,List.length_nil]; omega))
  simp only [Br,A8,Cu,Bj,Bp,B3,By,A6,Cb,Ca,Cl,Bl,A9,Bo,B6,Bn,C6,Dh,A4,Bd,Bc,B7,A0,A1,Bm,Bz,ofOpt,Be,B5,Bi,B0,Bg,Cd,Ci,Db,Nat.reduceLT,Nat.reduceEqDiff,Aa,Ab,Ac,Ae,Aj,Ak,Am,Ed,G8,Tryz.f17,hS1,Cm,Cn,fe0,fe2,fe3,hf48,hf49,hf50,hf51,hf52,hf55,l0,lk,lN,lName,Cj,e1,e2,e3,e4,e5,e6,e7,e8,e9]
  refine Jj [(0,true),(3,true),(1,true),(3,false),(2,true),(4,true),(5,true),(6,true)] (by kernel_rfl) (by kernel_rfl) ?_
  simp only [A4,Bd,Bc,A0,A1,Bm,Bz,ofOpt,Be,Nat.reduceLT,Nat.reduceEqDiff,Aa,Ab,Ac,Af,Ag,Ah,Aj,Ak,Am,Ed,hf51,l0,Dz,Eg,E5,D0,Hs]
  refine WC.mono (Mb (kind:=9) (pos:=pos) (n:=n) (name:=name) (off:=off) hk (by omega) 0 0 hok hz S1 (by exact n1)) ?_
  rintro _ ⟨S2,rfl,k2⟩
  have g2:S2.mem.get S.next=some (.box (exC 9 pos n name off kv)):=(k2.2 _ lt1).trans g1
  have lt2:S.next < S2.next:=Nat.lt_of_lt_of_le lt1 k2.1
  have a2:Cv Tryz.prog S2 30 (.ptr S.next 0)=some (.agg (exC 9 pos n name off kv)):=ld30 g2 rfl
  have b2:=Io g2
  have c2:=Pe g2
  simp only [A4,Bd,Bc,A0,A1,Bm,Bz,ofOpt,Be,Nat.reduceLT,Nat.reduceEqDiff,Aa,Ab,Ac,Aj,Ak,Am,Ed,Dg,hf51,rf2,Cj,a2,q0,Dz,L5,Eg,E5,D0,Fy,Dy,Ei]
  refine WC.mono (Mb (kind:=9) (pos:=pos) (n:=n) (name:=name) (off:=off) hk (by omega) 1 1 hok hz S2 (by have:=k2.1; omega)) ?_
  rintro _ ⟨S3,rfl,k3⟩
  have g3:S3.mem.get S.next=some (.box (exC 9 pos n name off kv)):=(k3.2 _ lt2).trans g2
  have lt3:S.next < S3.next:=Nat.lt_of_lt_of_le lt2 k3.1
  have a3:Cv Tryz.prog S3 30 (.ptr S.next 0)=some (.agg (exC 9 pos n name off kv)):=ld30 g3 rfl
  have b3:=Io g3
  have c3:=Pe g3
  simp only [By,A6,Cb,Cl,A4,Bd,Bc,A0,A1,ofOpt,Bi,B0,Bg,Cd,Nat.reduceLT,Nat.reduceEqDiff,Aa,Ab,Ac,Am,Ed,Dg,Cj,q1,Fw,Dz,Eg,D0,Fy,Gy]
  exact ⟨_,rfl,((k1).trans k2).trans k3⟩
 by_cases h10:kind=10
 ·subst h10
  have e1:(((10:Nat):Int) == 1)=false:=rfl
  have e2:(((10:Nat):Int) == 2)=false:=rfl
  have e3:(((10:Nat):Int) == 3)=false:=rfl
  have e4:(((10:Nat):Int) == 4)=false:=rfl
  have e5:(((10:Nat):Int) == 5)=false:=rfl
  have e6:(((10:Nat):Int) == 6)=false:=rfl
  have e7:(((10:Nat):Int) == 7)=false:=rfl
  have e8:(((10:Nat):Int) == 8)=false:=rfl
  have e9:(((10:Nat):Int) == 9)=false:=rfl
  have e10:(((10:Nat):Int) == 10)=true:=rfl
  have hl:=Sa (Cx kids) 0 8
  have q0:=D7 ([112,114,101,32]) (kT (Cx kids) 0 8) (by first | omega | (simp only [List.length_append,List.length_cons,List.length_nil]; omega))
  simp only [Br,A8,Cu,Bj,Bp,B3,By,A6,Cb,Ca,Cl,Bl,A9,Bo,B6,Bn,C6,Dh,A4,Bd,Bc,B7,A0,A1,Bm,Bz,ofOpt,Be,B5,Bi,B0,Bg,Cd,Ci,Db,Nat.reduceLT,Nat.reduceEqDiff,Aa,Ab,Ac,Ae,Aj,Ak,Am,Ed,G8,Tryz.f17,hS1,Cm,Cn,fe0,fe2,fe3,hf48,hf49,hf50,hf51,hf52,hf55,l0,lk,lN,lName,Cj,e1,e2,e3,e4,e5,e6,e7,e8,e9,e10]
  refine WC.mono (Mb (kind:=10) (pos:=pos) (n:=n) (name:=name) (off:=off) hk (by omega) 0 8 hok hz S1 (by exact n1)) ?_
  rintro _ ⟨S2,rfl,k2⟩
  have g2:S2.mem.get S.next=some (.box (exC 10 pos n name off kv)):=(k2.2 _ lt1).trans g1
  have lt2:S.next < S2.next:=Nat.lt_of_lt_of_le lt1 k2.1
  have a2:Cv Tryz.prog S2 30 (.ptr S.next 0)=some (.agg (exC 10 pos n name off kv)):=ld30 g2 rfl
  have b2:=Io g2
  have c2:=Pe g2
  simp only [By,A6,Cb,Cl,Bl,A9,Bo,Bn,Cz,A4,Bd,Bc,A0,A1,ofOpt,Be,Bi,B0,Bg,Cd,Nat.reduceLT,Nat.reduceEqDiff,Aa,Ab,Ac,Am,Ed,Dg,Cj,q0]
  exact ⟨_,rfl,(k1).trans k2⟩
 by_cases h11:kind=11
 ·subst h11
  have e1:(((11:Nat):Int) == 1)=false:=rfl
  have e2:(((11:Nat):Int) == 2)=false:=rfl
  have e3:(((11:Nat):Int) == 3)=false:=rfl
  have e4:(((11:Nat):Int) == 4)=false:=rfl
  have e5:(((11:Nat):Int) == 5)=false:=rfl
  have e6:(((11:Nat):Int) == 6)=false:=rfl
  have e7:(((11:Nat):Int) == 7)=false:=rfl
  have e8:(((11:Nat):Int) == 8)=false:=rfl
  have e9:(((11:Nat):Int) == 9)=false:=rfl
  have e10:(((11:Nat):Int) == 10)=false:=rfl
  have e11:(((11:Nat):Int) == 11)=true:=rfl
  have hl:=Sa (Cx kids) 0 9
  have hw:=Z0 name off
  have q0:=D7 (kT (Cx kids) 0 9) (O7 name off) (by first | omega | (simp only [List.length_append,List.length_cons,List.length_nil]; omega))
  simp only [Br,A8,Cu,Bj,Bp,B3,By,A6,Cb,Ca,Cl,Bl,A9,Bo,B6,Bn,C6,Dh,A4,Bd,Bc,B7,A0,A1,Bm,Bz,ofOpt,Be,B5,Bi,B0,Bg,Cd,Ci,Db,Nat.reduceLT,Nat.reduceEqDiff,Aa,Ab,Ac,Ae,Aj,Ak,Am,Ed,G8,Tryz.f17,hS1,Cm,Cn,fe0,fe2,fe3,hf48,hf49,hf50,hf51,hf52,hf55,l0,lk,lN,lName,Cj,e1,e2,e3,e4,e5,e6,e7,e8,e9,e10,e11]
  refine Jj [(0,true),(2,true),(3,true),(4,true),(5,true),(1,true),(5,false),(3,false),(6,true),(7,true),(8,true)] (by kernel_rfl) (by kernel_rfl) ?_
  simp only [A4,Bd,Bc,A0,A1,Bm,Bz,ofOpt,Be,Nat.reduceLT,Nat.reduceEqDiff,Aa,Ab,Ac,Af,Ag,Ah,Aj,Ak,Am,Ed,fe3,fe4,hf51,l0,lName,lOff,Dz,Eg,E5,D0,Hs]
  refine WC.mono (Mb (kind:=11) (pos:=pos) (n:=n) (name:=name) (off:=off) hk (by omega) 0 9 hok hz S1 (by exact n1)) ?_
  rintro _ ⟨S2,rfl,k2⟩
  have g2:S2.mem.get S.next=some (.box (exC 11 pos n name off kv)):=(k2.2 _ lt1).trans g1
  have lt2:S.next < S2.next:=Nat.lt_of_lt_of_le lt1 k2.1
  have a2:Cv Tryz.prog S2 30 (.ptr S.next 0)=some (.agg (exC 11 pos n name off kv)):=ld30 g2 rfl
  have b2:=Io g2
  have c2:=Pe g2
  simp only [A4,Bd,Bc,A0,A1,Bm,Bz,ofOpt,Nat.reduceLT,Nat.reduceEqDiff,Aa,Ab,Ac,Aj,Ak,Ed,hf53,beqA_bool,Cj,b2,c2,Dz,L5,E5,D0,Fy,Dy,Ei,Kd]
  refine WC.mono (when_w name off (by omega) S2) ?_
  rintro _ rfl
  simp only [By,A6,Cb,Cl,A4,Bd,Bc,A0,A1,ofOpt,Bi,B0,Bg,Cd,Nat.reduceLT,Nat.reduceEqDiff,Aa,Ab,Ac,Am,Ed,Dg,Cj,q0,Fw,Dz,Eg,D0,Fy,Gy]
  exact ⟨_,rfl,(k1).trans k2⟩
 by_cases h12:kind=12
 ·subst h12
  have e1:(((12:Nat):Int) == 1)=false:=rfl
  have e2:(((12:Nat):Int) == 2)=false:=rfl
  have e3:(((12:Nat):Int) == 3)=false:=rfl
  have e4:(((12:Nat):Int) == 4)=false:=rfl
  have e5:(((12:Nat):Int) == 5)=false:=rfl
  have e6:(((12:Nat):Int) == 6)=false:=rfl
  have e7:(((12:Nat):Int) == 7)=false:=rfl
  have e8:(((12:Nat):Int) == 8)=false:=rfl
  have e9:(((12:Nat):Int) == 9)=false:=rfl
  have e10:(((12:Nat):Int) == 10)=false:=rfl
  have e11:(((12:Nat):Int) == 11)=false:=rfl
  have e12:(((12:Nat):Int) == 12)=true:=rfl
  have hl:=Xl (Cx kids) 0 0
  have q0:=D7 ([109,101,114,103,101,32]) (name) (by first | omega | (simp only [List.length_append,List.length_cons,List.length_nil]; omega))
  have q1:=D7 (([109,101,114,103,101,32]) ++ name) ([32,40]) (by first | omega | (simp only [List.length_append,List.length_cons,List.length_nil]; omega))
  have q2:=D7 ((([109,101,114,103,101,32]) ++ name) ++ [32,40]) (kT (Cx kids) 0 0) (by first | omega | (simp only [List.length_append,List.length_cons,List.length_nil]; omega))
  have q3:=D7 (((([109,101,114,103,101,32]) ++ name) ++ [32,40]) ++ kT (Cx kids) 0 0) ([41,32,40]) (by first | omega | (simp only [List.length_append,List.length_cons,List.length_nil]; omega))
  have q4:=D7 ((((([109,101,114,103,101,32]) ++ name) ++ [32,40]) ++ kT (Cx kids) 0 0) ++ [41,32,40]) (kT (Cx kids) 1 0) (by first | omega | (simp only [List.length_append,List.length_cons,List.length_nil]; omega))
  have q5:=D7 (((((([109,101,114,103,101,32]) ++ name) ++ [32,40]) ++ kT (Cx kids) 0 0) ++ [41,32,40]) ++ kT (Cx kids) 1 0) ([41]) (by first | omega | (simp only [List.length_append,List.length_cons,List.length_nil]; omega))
  simp only [Br,A8,Cu,Bj,Bp,B3,By,A6,Cb,Ca,Cl,Bl,A9,Bo,B6,Bn,C6,Dh,A4,Bd,Bc,B7,A0,A1,Bm,Bz,ofOpt,Be,B5,Bi,B0,Bg,Cd,Ci,Db,Nat.reduceLT,Nat.reduceEqDiff,Aa,Ab,Ac,Ae,Aj,Ak,Am,Ed,G8,Tryz.f17,hS1,Cm,Cn,fe0,fe2,fe3,hf48,hf49,hf50,hf51,hf52,hf55,l0,lk,lN,lName,Cj,e1,e2,e3,e4,e5,e6,e7,e8,e9,e10,e11,e12]
  refine Jj [(0,true),(1,true),(2,true),(3,true),(4,true),(8,true),(5,true),(8,false),(1,false),(6,true),(7,true),(9,true),(1,false),(10,true),(11,true),(12,true)] (by kernel_rfl) (by kernel_rfl) ?_
  simp only [A4,Bd,Bc,A0,A1,Bm,Bz,ofOpt,Be,Nat.reduceLT,Nat.reduceEqDiff,Aa,Ab,Ac,Af,Ag,Ah,Aj,Ak,Am,Ed,Dg,fe3,hf51,l0,lName,q0,q1,Dz,Eg,E5,D0,Hs]
  refine WC.mono (Mb (kind:=12) (pos:=pos) (n:=n) (name:=name) (off:=off) hk (by omega) 0 0 hok hz S1 (by exact n1)) ?_
  rintro _ ⟨S2,rfl,k2⟩
  have g2:S2.mem.get S.next=some (.box (exC 12 pos n name off kv)):=(k2.2 _ lt1).trans g1
  have lt2:S.next < S2.next:=Nat.lt_of_lt_of_le lt1 k2.1
  have a2:Cv Tryz.prog S2 30 (.ptr S.next 0)=some (.agg (exC 12 pos n name off kv)):=ld30 g2 rfl
  have b2:=Io g2
  have c2:=Pe g2
  simp only [A4,Bd,Bc,A0,A1,Bm,Bz,ofOpt,Be,Nat.reduceLT,Nat.reduceEqDiff,Aa,Ab,Ac,Aj,Ak,Am,Ed,Dg,hf51,rf2,Cj,a2,b2,q2,q3,Dz,L5,Eg,E5,D0,Fy,Dy,Ei,Kd]
  refine WC.mono (Mb (kind:=12) (pos:=pos) (n:=n) (name:=name) (off:=off) hk (by omega) 1 0 hok hz S2 (by have:=k2.1; omega)) ?_
  rintro _ ⟨S3,rfl,k3⟩
  have g3:S3.mem.get S.next=some (.box (exC 12 pos n name off kv)):=(k3.2 _ lt2).trans g2
  have lt3:S.next < S3.next:=Nat.lt_of_lt_of_le lt2 k3.1
  have a3:Cv Tryz.prog S3 30 (.ptr S.next 0)=some (.agg (exC 12 pos n name off kv)):=ld30 g3 rfl
  have b3:=Io g3
  have c3:=Pe g3
  simp only [By,A6,Cb,Cl,A4,Bd,Bc,A0,A1,ofOpt,Be,Bi,B0,Bg,Cd,Nat.reduceLT,Nat.reduceEqDiff,Aa,Ab,Ac,Am,Ed,Dg,Cj,b3,q4,q5,Fw,Dz,L5,Eg,D0,Fy,Gy,Dy,Ei,Kd]
  exact ⟨_,rfl,((k1).trans k2).trans k3⟩
 by_cases h13:kind=13
 ·subst h13
  have e1:(((13:Nat):Int) == 1)=false:=rfl
  have e2:(((13:Nat):Int) == 2)=false:=rfl
  have e3:(((13:Nat):Int) == 3)=false:=rfl
  have e4:(((13:Nat):Int) == 4)=false:=rfl
  have e5:(((13:Nat):Int) == 5)=false:=rfl
  have e6:(((13:Nat):Int) == 6)=false:=rfl
  have e7:(((13:Nat):Int) == 7)=false:=rfl
  have e8:(((13:Nat):Int) == 8)=false:=rfl
  have e9:(((13:Nat):Int) == 9)=false:=rfl
  have e10:(((13:Nat):Int) == 10)=false:=rfl
  have e11:(((13:Nat):Int) == 11)=false:=rfl
  have e12:(((13:Nat):Int) == 12)=false:=rfl
  have e13:(((13:Nat):Int) == 13)=true:=rfl
  have hl:=P9 (Cx kids)
  have q0:=D7 (name) ([40]) (by first | omega | (simp only [List.length_append,List.length_cons,List.length_nil]; omega))
  have q1:=D7 ((name) ++ [40]) (Kr (Cx kids)) (by first | omega | (simp only [List.length_append,List.length_cons,List.length_nil]; omega))
  have q2:=D7 (((name) ++ [40]) ++ Kr (Cx kids)) ([41]) (by first | omega | (simp only [List.length_append,List.length_cons,List.length_nil]; omega))
  simp only [Br,A8,Cu,Bj,Bp,B3,By,A6,Cb,Ca,Cl,Bl,A9,Bo,B6,Bn,C6,Dh,A4,Bd,Bc,B7,A0,A1,Bm,Bz,ofOpt,Be,B5,Bi,B0,Bg,Cd,Ci,Db,Nat.reduceLT,Nat.reduceEqDiff,Aa,Ab,Ac,Ae,Aj,Ak,Am,Ed,G8,Tryz.f17,hS1,Cm,Cn,fe0,fe2,fe3,hf48,hf49,hf50,hf51,hf52,hf55,l0,lk,lN,lName,Cj,e1,e2,e3,e4,e5,e6,e7,e8,e9,e10,e11,e12,e13]
  refine Jj [(0,true),(1,true),(2,true),(3,true),(4,true),(1,false),(5,true),(6,true),(7,true)] (by kernel_rfl) (by kernel_rfl) ?_
  simp only [A4,Bd,Bc,A0,A1,Bm,Bz,ofOpt,Be,Nat.reduceLT,Nat.reduceEqDiff,Aa,Ab,Ac,Af,Ag,Ah,Aj,Ak,Am,Ed,Dg,fe3,hf54,l0,lName,q0,Dz,Eg,E5,D0,Hs]
  refine WC.mono (cE (kind:=13) (pos:=pos) (n:=n) (name:=name) (off:=off) hk hlen hok hz S1 n1) ?_
  rintro _ ⟨S2,rfl,k2⟩
  have g2:S2.mem.get S.next=some (.box (exC 13 pos n name off kv)):=(k2.2 _ lt1).trans g1
  have lt2:S.next < S2.next:=Nat.lt_of_lt_of_le lt1 k2.1
  have a2:Cv Tryz.prog S2 30 (.ptr S.next 0)=some (.agg (exC 13 pos n name off kv)):=ld30 g2 rfl
  have b2:=Io g2
  have c2:=Pe g2
  simp only [By,A6,Cb,Cl,A4,Bd,Bc,A0,A1,ofOpt,Be,Bi,B0,Bg,Cd,Nat.reduceLT,Nat.reduceEqDiff,Aa,Ab,Ac,Am,Ed,Dg,Cj,b2,q1,q2,Fw,Dz,L5,Eg,D0,Fy,Gy,Dy,Ei,Kd]
  exact ⟨_,rfl,(k1).trans k2⟩
 by_cases h14:kind=14
 ·subst h14
  have e1:(((14:Nat):Int) == 1)=false:=rfl
  have e2:(((14:Nat):Int) == 2)=false:=rfl
  have e3:(((14:Nat):Int) == 3)=false:=rfl
  have e4:(((14:Nat):Int) == 4)=false:=rfl
  have e5:(((14:Nat):Int) == 5)=false:=rfl
  have e6:(((14:Nat):Int) == 6)=false:=rfl
  have e7:(((14:Nat):Int) == 7)=false:=rfl
  have e8:(((14:Nat):Int) == 8)=false:=rfl
  have e9:(((14:Nat):Int) == 9)=false:=rfl
  have e10:(((14:Nat):Int) == 10)=false:=rfl
  have e11:(((14:Nat):Int) == 11)=false:=rfl
  have e12:(((14:Nat):Int) == 12)=false:=rfl
  have e13:(((14:Nat):Int) == 13)=false:=rfl
  have e14:(((14:Nat):Int) == 14)=true:=rfl
  simp only [Br,A8,Cu,Bj,Bp,B3,By,A6,Cb,Ca,Cl,Bl,A9,Bo,B6,Bn,C6,Dh,A4,Bd,Bc,B7,A0,A1,Bm,Bz,ofOpt,Be,B5,Bi,B0,Bg,Cd,Ci,Db,Nat.reduceLT,Nat.reduceEqDiff,Aa,Ab,Ac,Ae,Aj,Ak,Am,Ed,G8,Tryz.f17,hS1,Cm,Cn,fe0,fe2,fe3,hf48,hf49,hf50,hf51,hf52,hf55,l0,lk,lN,lName,Cj,e1,e2,e3,e4,e5,e6,e7,e8,e9,e10,e11,e12,e13,e14]
  refine WC.mono (await_w (kind:=14) (pos:=pos) (n:=n) (name:=name) (off:=off) hk hlen hok hz hnm S1 n1) ?_
  rintro _ ⟨S2,rfl,k2⟩
  simp only [By,A6,Cb,Cl,Bl,A9,Bo,Bn,Cz,A4,Bd,Bc,A0,A1,ofOpt,Bi,B0,Bg,Cd,Nat.reduceLT,Nat.reduceEqDiff,Aa,Ab,Ac,Cj]
  exact ⟨_,rfl,k1.trans k2⟩
 have e1:((kind:Int) == 1)=false:=by rw [beq_eq_false_iff_ne]; omega
 have e2:((kind:Int) == 2)=false:=by rw [beq_eq_false_iff_ne]; omega
 have e3:((kind:Int) == 3)=false:=by rw [beq_eq_false_iff_ne]; omega
 have e4:((kind:Int) == 4)=false:=by rw [beq_eq_false_iff_ne]; omega
 have e5:((kind:Int) == 5)=false:=by rw [beq_eq_false_iff_ne]; omega
 have e6:((kind:Int) == 6)=false:=by rw [beq_eq_false_iff_ne]; omega
 have e7:((kind:Int) == 7)=false:=by rw [beq_eq_false_iff_ne]; omega
 have e8:((kind:Int) == 8)=false:=by rw [beq_eq_false_iff_ne]; omega
 have e9:((kind:Int) == 9)=false:=by rw [beq_eq_false_iff_ne]; omega
 have e10:((kind:Int) == 10)=false:=by rw [beq_eq_false_iff_ne]; omega
 have e11:((kind:Int) == 11)=false:=by rw [beq_eq_false_iff_ne]; omega
 have e12:((kind:Int) == 12)=false:=by rw [beq_eq_false_iff_ne]; omega
 have e13:((kind:Int) == 13)=false:=by rw [beq_eq_false_iff_ne]; omega
 have e14:((kind:Int) == 14)=false:=by rw [beq_eq_false_iff_ne]; omega
 simp only [Br,A8,Cu,Bj,Bp,B3,By,A6,Cb,Ca,Cl,Bl,A9,Bo,B6,Bn,Dh,A4,Bd,Bc,B7,A0,A1,Bm,Bz,ofOpt,Be,B5,Bi,B0,Bg,Cd,Ci,Db,Nat.reduceLT,Nat.reduceEqDiff,Aa,Ab,Ac,Ae,Aj,Ak,Am,Ed,G8,Tryz.f17,hS1,Cm,Cn,fe0,fe2,fe3,hf48,hf49,hf50,hf51,hf52,hf55,l0,lk,lN,lName,Cj,e1,e2,e3,e4,e5,e6,e7,e8,e9,e10,e11,e12,e13,e14]
 have e:Fz (.mk kind pos n name off kids)=[]:=by
  show U5 kind n name off (Cx kids)=[]
  unfold U5
  split <;> first | rfl | (exfalso; omega)
 rw [e]
 exact ⟨_,rfl,k1⟩
end Go.Ax
noncomputable section
namespace Go.Ax
open Go.RowKit Go.Proofs
set_option maxRecDepth 100000
def Pr (b f:Bool):List UInt8:=if f then [102,117,116,117,114,101,32] ++ (if b then [98,111,111,108] else [105,110,116]) else (if b then [98,111,111,108] else [105,110,116])
def G4 (d:PD):List UInt8:=if d.clock=[] then (d.name ++ [58,32]) ++ Pr d.bool d.fut else ((d.name ++ [58,32]) ++ Pr d.bool d.fut) ++ O7 d.clock d.off
def Jb (l:List PD) (sep:List UInt8):List UInt8:=Lib.join (l.map G4) sep
def Kq (l:List (List UInt8 × Nat)):List UInt8:=if 1 < l.length then ([40] ++ Lib.join (l.map (·.1)) [44,32]) ++ [41] else Lib.join (l.map (·.1)) [44,32]
def eqT (q:PQ):List UInt8:=(if q.async then (Kq q.left ++ [32,61,32]) ++ [97,115,121,110,99,32] else Kq q.left ++ [32,61,32]) ++ Fz q.e
def Rg (d:PD):Prop:=d.name.length ≤ 30 ∧ d.clock.length ≤ 30
def FitQ (q:PQ):Prop:=q.left.length ≤ 100000 ∧ (∀ x ∈ q.left,x.1.length ≤ 30) ∧ Fit q.e ∧ Gr q.e ≤ 1000000
theorem Vz {m:Nat} (sep:List UInt8):∀ (ws:List (List UInt8)),(∀ w ∈ ws,w.length ≤ m) → (Lib.join ws sep).length ≤ ws.length * (m + sep.length)
 | [],_=>by simp [Lib.join_nil]
 | [a],h=>by have:=h a (by simp); simp [Lib.join_one]; omega
 | a :: b :: r,h=>by
  have ih:=Vz sep (b :: r) (fun w hw=>h w (List.mem_cons_of_mem _ hw))
  have ha:=h a (by simp)
  have e:Lib.join (a :: b :: r) sep=a ++ (sep ++ Lib.join (b :: r) sep):=by
   unfold Lib.join
   simp [List.intercalate,List.intersperse]
  rw [e]
  simp only [List.length_append,List.length_cons] at ih ⊢
  rw [Nat.succ_mul]
  omega
theorem mX (b f:Bool):(Pr b f).length ≤ 11:=by cases b <;> cases f <;> decide
theorem iO {d:PD} (h:Rg d):(G4 d).length ≤ 83:=by
 have h1:=mX d.bool d.fut
 have h2:=Z0 d.clock d.off
 have h3:=h.1; have h4:=h.2
 unfold G4
 split <;> simp only [List.length_append,List.length_cons,List.length_nil] <;> omega
theorem yP (l m:List UInt8):D8 .neq (.v (.string ⟨⟨l⟩⟩)) (.v (.string ⟨⟨m⟩⟩))=some (.v (.bool (!decide (l=m)))):=by
 show some (AV.v (.bool (!Kl l m)))=_
 rw [Jp]
 congr 4
 by_cases h:l=m <;> simp [h]
theorem lW (b:Nat):Cy Tryz.prog 52 (.ptr b 0) 0=some (.ptr b 0):=by kernel_rfl
theorem lV (b:Nat):Cy Tryz.prog 52 (.ptr b 0) 1=some (.ptr b 1):=by kernel_rfl
theorem fd54_0 (b:Nat):Cy Tryz.prog 54 (.ptr b 0) 0=some (.ptr b 0):=by kernel_rfl
theorem fd54_2 (b:Nat):Cy Tryz.prog 54 (.ptr b 0) 2=some (.ptr b 2):=by kernel_rfl
theorem fd59_0 (b:Nat):Cy Tryz.prog 59 (.ptr b 0) 0=some (.ptr b 0):=by kernel_rfl
theorem ag52:Fs Tryz.prog 52=some true:=by kernel_rfl
theorem sz52:Fq Tryz.prog 52=some 2:=by kernel_rfl
theorem ld4 {S:St} {id:Nat} {cs:List AV} (h:S.mem.get id=some (.box cs)) (k:Nat) (hk:k < cs.length):Cv Tryz.prog S 4 (.ptr id k)=some cs[k]:=by
 have:k ≤ cs.length:=by omega
 simp [Cv,Dc,h,ag4,this,hk]
theorem ld9k {S:St} {id:Nat} {cs:List AV} (h:S.mem.get id=some (.box cs)) (k:Nat) (hk:k < cs.length):Cv Tryz.prog S 9 (.ptr id k)=some cs[k]:=by
 have:k ≤ cs.length:=by omega
 simp [Cv,Dc,h,ag9,this,hk]
theorem ld52 {S:St} {id:Nat} {d:PD} (h:S.mem.get id=some (.box (Ge d))):Cv Tryz.prog S 52 (.ptr id 2)=some (.agg [.v (.bool d.bool),.v (.bool d.fut)]):=by
 simp [Cv,Dc,h,ag52,sz52,Ge]
theorem idx46d (tok off:Nat) (l:List PD) (j:Nat) (h:j < l.length):Eu Tryz.prog 46 (.sl tok off 6 (l.map Gt)) (.v (.int .i64 (j:Int)))=some (.ep (Ge l[j])):=by
 have h0:(0:Int) ≤ (j:Int):=by omega
 simp [Eu,h0,el46,Z8,h,Gt,AV.cells]
theorem lep54 (S:St) (d:PD):Cv Tryz.prog S 54 (.ep (Ge d))=some (.agg (Ge d)):=by
 simp [Cv,Dc,vM,Z8,Ge]
theorem st54w {S:St} {id:Nat} {cs:List AV} (h:S.mem.get id=some (.box cs)) (hl:cs.length=6) (d:PD):C9 Tryz.prog S 54 (.ptr id 0) (.agg (Ge d))=some (S.put id (Ge d)):=by
 have h2:(AV.agg (Ge d)).noTup=true:=rfl
 have h3:(Ge d).length=6:=rfl
 simp [C9,h,Z8,h2,AV.cells,hl,h3,St.put,List.drop_eq_nil_of_le]
theorem idx55d (tok off:Nat) (l:List (List UInt8 × Nat)) (j:Nat) (h:j < l.length):Eu Tryz.prog 55 (.sl tok off 2 (l.map Gd)) (.v (.int .i64 (j:Int)))=some (.ep (Ho l[j])):=by
 have h0:(0:Int) ≤ (j:Int):=by omega
 simp [Eu,h0,uP,nB,h,Gd,AV.cells]
theorem lep59 (S:St) (d:List UInt8 × Nat):Cv Tryz.prog S 59 (.ep (Ho d))=some (.agg (Ho d)):=by
 simp [Cv,Dc,ag59,nB,Ho]
theorem st59w {S:St} {id:Nat} {cs:List AV} (h:S.mem.get id=some (.box cs)) (hl:cs.length=2) (d:List UInt8 × Nat):C9 Tryz.prog S 59 (.ptr id 0) (.agg (Ho d))=some (S.put id (Ho d)):=by
 have h2:(AV.agg (Ho d)).noTup=true:=rfl
 have h3:(Ho d).length=2:=rfl
 simp [C9,h,nB,h2,AV.cells,hl,h3,St.put,List.drop_eq_nil_of_le]
theorem lenRow46 (S:St) {v:AV} {l:List PD} (h:Ik 6 Gt v l):Je Tryz.prog S 46 v=some l.length:=by
 rcases h with ⟨rfl,rfl⟩ | ⟨tok,off,rfl⟩
 ·have:Je Tryz.prog S 46 .nils=some 0:=by kernel_rfl
  exact this
 ·simp [Je,un46]
theorem lenRow69 {lo:Nat} {S:St} {a:AV} {es:List AV} (h:X3 lo S a es):Je Tryz.prog S 69 a=some es.length:=by
 rcases h with ⟨rfl,rfl⟩ | ⟨tok,_,_,_,rfl,_⟩
 ·have:Je Tryz.prog S 69 .nils=some 0:=by kernel_rfl
  exact this
 ·exact len69 S tok 0 es
set_option maxHeartbeats 16000000 in
theorem rV (b f:Bool) (S:St):WC E6 28 [.agg [.v (.bool b),.v (.bool f)]] S (fun r=>∃ S',r=.ret (Cj (Pr b f)) S' ∧ Ep S S'):=by
 refine Dt Tryz.f28 (by kernel_rfl) (by kernel_rfl) (by kernel_rfl) (show (_:Nat) ≤ _ from by show (_:Nat) ≤ _; simp [Tryz.f28]) ?_
 have g1:=Do S [.v (.bool b),.v (.bool f)]
 have k1:=Dp S [.v (.bool b),.v (.bool f)]
 generalize hS1:S.newBox [.v (.bool b),.v (.bool f)]=S1 at g1 k1
 have l0:=ld4 g1 0 (by simp)
 have l1:=ld4 g1 1 (by simp)
 have q1:=D7 [102,117,116,117,114,101,32] [98,111,111,108] (by decide)
 have q2:=D7 [102,117,116,117,114,101,32] [105,110,116] (by decide)
 have agg_noTup2:(AV.agg [.v (.bool b),.v (.bool f)]).noTup=true:=rfl
 cases b <;> cases f
 ·simp only [Br,A8,Bj,Bp,By,A6,Cb,Bl,A9,Bo,Bn,A4,Bd,Bc,B7,A0,A1,ofOpt,Be,Bi,B0,Bg,Cd,Nat.reduceLT,Nat.reduceEqDiff,Aa,Ab,Ac,Ae,Am,Ed,Dg,Tryz.f28,hS1,agg_noTup2,AV.cells,lW,lV,l0,l1,q1,q2]
  exact ⟨_,rfl,k1⟩
 ·simp only [Br,A8,Bj,Bp,By,A6,Cb,Bl,A9,Bo,Bn,A4,Bd,Bc,B7,A0,A1,ofOpt,Be,Bi,B0,Bg,Cd,Nat.reduceLT,Nat.reduceEqDiff,Aa,Ab,Ac,Ae,Am,Ed,Dg,Tryz.f28,hS1,agg_noTup2,AV.cells,lW,lV,l0,l1,q1,q2]
  exact ⟨_,rfl,k1⟩
 ·simp only [Br,A8,Bj,Bp,By,A6,Cb,Bl,A9,Bo,Bn,A4,Bd,Bc,B7,A0,A1,ofOpt,Be,Bi,B0,Bg,Cd,Nat.reduceLT,Nat.reduceEqDiff,Aa,Ab,Ac,Ae,Am,Ed,Dg,Tryz.f28,hS1,agg_noTup2,AV.cells,lW,lV,l0,l1,q1,q2]
  exact ⟨_,rfl,k1⟩
 ·simp only [Br,A8,Bj,Bp,By,A6,Cb,Bl,A9,Bo,Bn,A4,Bd,Bc,B7,A0,A1,ofOpt,Be,Bi,B0,Bg,Cd,Nat.reduceLT,Nat.reduceEqDiff,Aa,Ab,Ac,Ae,Am,Ed,Dg,Tryz.f28,hS1,agg_noTup2,AV.cells,lW,lV,l0,l1,q1,q2]
  exact ⟨_,rfl,k1⟩
noncomputable def uR:Code:=(Gn (Tryz.f60.body.getD .skip)).getD .skip
noncomputable def tH:Code:=(Gn (Tryz.f93.body.getD .skip)).getD .skip
set_option maxHeartbeats 16000000 in
theorem lZ {v:AV} {l:List PD} (hv:Ik 6 Gt v l) (hlen:l.length ≤ 100000) (hfit:∀ d ∈ l,Rg d) (sp:AV) (S0:St) (hn:2 ≤ S0.next) :
  ∀ (m j:Nat) (t:T AV) (S:St) (a:AV),j + m=l.length → t.get 1=some sp → t.get 5=some a → t.get 9=some v → t.get 10=some (.v (.int .i64 (l.length:Int))) → t.get 11=some (.v (.int .i64 (j:Int))) →
   S0.next ≤ S.next → X3 S0.next S a (((l.map G4).take j).map Cj) → (∀ id,id < S0.next → S.mem.get id=S0.mem.get id) →
   WX E6 40 (.loop uR) ⟨t,[]⟩ S (fun r=>∃ t' S' a',r=.out (.exit 0) ⟨t',[]⟩ S' ∧ t'.get 1=some sp ∧ t'.get 5=some a' ∧ X3 S0.next S' a' ((l.map G4).map Cj) ∧ Ep S0 S')
 | 0,j,t,S,a,hj,h1,h5,h9,h10,h11,hS,hrow,hkeep=>by
  refine E9 (Em ?_)
  have hlt:decide ((j:Int) < (l.length:Int))=false:=decide_eq_false (by omega)
  simp only [B9,Br,A8,Bj,Bp,B3,Dk,A6,Ff,Bl,A9,Bo,Bn,Dh,A4,Bd,Bc,A0,ofOpt,B5,Dj,Nat.reduceLT,Nat.reduceEqDiff,Aa,Ab,Ac,Ae,Am,Ed,uR,Gn,Tryz.f60,h9,h10,h11,hlt]
  refine ⟨_,_,_,rfl,by simp only [A0,Nat.reduceEqDiff,Ab]; exact h1,by simp only [A0,Nat.reduceEqDiff,Ab]; exact h5,?_,hS,hkeep⟩
  have e:(l.map G4).take j=l.map G4:=List.take_of_length_le (by rw [List.length_map]; omega)
  rw [e] at hrow
  exact hrow
 | m + 1,j,t,S,a,hj,h1,h5,h9,h10,h11,hS,hrow,hkeep=>by
  refine E9 (Em ?_)
  obtain ⟨fn1,hf1⟩:=fn6_28
  obtain ⟨fn2,hf2⟩:=fn6_53
  have hlt:decide ((j:Int) < (l.length:Int))=true:=decide_eq_true (by omega)
  have hjl:j < l.length:=by omega
  obtain ⟨tok,off,rfl⟩:∃ tok off,v=.sl tok off 6 (l.map Gt):=by
   rcases hv with ⟨_,h0⟩ | h
   ·rw [h0] at hjl; cases hjl
   ·exact h
  have q1:=idx46d tok off l j hjl
  have q2:=lep54 S l[j]
  have hfd:=hfit _ (List.getElem_mem hjl)
  generalize hd:l[j]=d at q1 q2 hfd
  have q3:=st54w (Do S dX) rfl d
  have g3:=Et (S.newBox dX) S.next (Ge d)
  have k3:Ep S ((S.newBox dX).put S.next (Ge d)):=Ew (Dp S _) (Nat.le_refl _) _
  have lt3:S.next < ((S.newBox dX).put S.next (Ge d)).next:=Nat.lt_succ_self _
  generalize hS3:(S.newBox dX).put S.next (Ge d)=S3 at q3 g3 k3 lt3
  have r0:Cv Tryz.prog S3 9 (.ptr S.next 0)=some (.v (.string ⟨⟨d.name⟩⟩)):=ld9k g3 0 (by show 0 < 6; omega)
  have r2:=ld52 g3
  have h30:=hfd.1; have h31:=hfd.2
  have c1:=D7 d.name [58,32] (by simp; omega)
  simp only [B9,Br,A8,Cu,Bj,Bp,B3,Dk,A6,Ff,Bl,A9,Bo,F4,Gj,Bn,C6,A4,Bd,Bc,A0,ofOpt,ofOptS,B5,Dj,Nat.reduceLT,Nat.reduceEqDiff,Aa,Ab,Ac,Ae,Am,Ed,uR,Gn,Tryz.f60,h9,h10,h11,hlt,q1,q2,qY,q3]
  refine Jj [(0,true),(1,true),(2,true),(3,true),(4,true),(5,true),(1,false),(6,true),(7,true)] (by kernel_rfl) (by kernel_rfl) ?_
  simp only [A4,Bd,Bc,A0,Bm,Bz,ofOpt,Be,Nat.reduceLT,Nat.reduceEqDiff,Aa,Ab,Ac,Af,Ag,Ah,Aj,Ak,Am,Ed,Dg,hf1,fd54_0,fd54_2,r0,r2,c1,Dz,Eg,E5,D0,Hs]
  refine WC.mono (rV d.bool d.fut S3) ?_
  rintro _ ⟨S4,rfl,k4⟩
  have g4:=(k4.2 _ lt3).trans g3
  have s0:Cv Tryz.prog S4 9 (.ptr S.next 0)=some (.v (.string ⟨⟨d.name⟩⟩)):=ld9k g4 0 (by show 0 < 6; omega)
  have s4:Cv Tryz.prog S4 9 (.ptr S.next 4)=some (.v (.string ⟨⟨d.clock⟩⟩)):=ld9k g4 4 (by show 4 < 6; omega)
  have s5:Cv Tryz.prog S4 4 (.ptr S.next 5)=some (.v (.bool d.off)):=ld4 g4 5 (by show 5 < 6; omega)
  have ht:=mX d.bool d.fut
  have hw:=Z0 d.clock d.off
  have c2:=D7 (d.name ++ [58,32]) (Pr d.bool d.fut) (by simp; omega)
  have c3:=D7 ((d.name ++ [58,32]) ++ Pr d.bool d.fut) (O7 d.clock d.off) (by simp; omega)
  have w1:IntKind.i64.wrap ((j:Int) + 1)=((j + 1:Nat):Int):=I1 (j:=1) (by omega)
  have k04:Ep S S4:=k3.trans k4
  obtain ⟨S5,q5,hrow5,hn5,hk5⟩:=sP (hrow.keep k04) (by have:=k04.1; omega) (Nat.le_trans hS k04.1) (G4 d) (by rw [List.length_map,List.length_take]; omega)
  have q6:=row69 (G4 d)
  have eR:(((l.map G4).take (j + 1)).map Cj)=(((l.map G4).take j).map Cj) ++ [.v (.string ⟨⟨G4 d⟩⟩)]:=by
   rw [List.take_add_one,List.map_append,List.getElem?_map,List.getElem?_eq_getElem hjl,hd]; rfl
  rw [← eR] at hrow5
  rw [← eR] at q5
  have fin5:∀ id,id < S0.next → S5.mem.get id=S0.mem.get id:=fun id hid=>by rw [hk5 id hid,k04.2 id (by omega)]; exact hkeep id hid
  have hS5:S0.next ≤ S5.next:=Nat.le_trans hS (Nat.le_trans k04.1 hn5)
  by_cases hc:d.clock=[]
  ·have nc:(!decide (d.clock=([]:List UInt8)))=false:=by simp [hc]
   have eD:G4 d=(d.name ++ [58,32]) ++ Pr d.bool d.fut:=by unfold G4; rw [if_pos hc]
   rw [eD] at q5 q6
   simp only [B4,Br,A8,Bj,Bp,A6,Ca,Bl,A9,Bo,B6,Bn,Dh,A4,Bd,Bc,A0,Bm,Bz,ofOpt,ofOptS,Be,Bs,B5,Dv,Nat.reduceLT,Nat.reduceEqDiff,Aa,Ab,Ac,Aj,Ak,Am,Ed,Dg,h5,h11,hf2,uL,uK,s0,s4,s5,c2,Cj,yP,nc,q5,q6,w1,Fw,Dz,L5,Eg,D0,Fy,Gy,Dy,Ei,Kd]
   exact lZ (.inr ⟨tok,off,rfl⟩) hlen hfit sp S0 hn m (j + 1) _ S5 _ (by omega) (by simp only [A0,Nat.reduceEqDiff,Ab]; exact h1) (by simp only [A0,Nat.reduceEqDiff,Ab,Aa]) (by simp only [A0,Nat.reduceEqDiff,Ab]; exact h9) (by simp only [A0,Nat.reduceEqDiff,Ab]; exact h10) (by simp only [A0,Nat.reduceEqDiff,Ab,Aa]) hS5 hrow5 fin5
  ·have nc:(!decide (d.clock=([]:List UInt8)))=true:=by simp [hc]
   have eD:G4 d=((d.name ++ [58,32]) ++ Pr d.bool d.fut) ++ O7 d.clock d.off:=by unfold G4; rw [if_neg hc]
   rw [eD] at q5 q6
   simp only [Br,A8,Bj,Bp,A6,Bl,A9,Bo,B6,Bn,C6,A4,Bd,Bc,A0,Bm,Bz,ofOpt,Be,Bs,Nat.reduceLT,Nat.reduceEqDiff,Aa,Ab,Ac,Aj,Ak,Am,Ed,Dg,h5,hf2,uL,uK,s0,s4,s5,c2,Cj,yP,nc,Fw,Dz,L5,Eg,D0,Fy,Gy,Dy,Ei,Kd]
   refine WC.mono (when_w d.clock d.off (by omega) S4) ?_
   rintro _ rfl
   simp only [B4,A8,A6,Ca,Bl,A9,Bo,Bn,Cz,A4,Bd,Bc,A0,Bm,ofOpt,ofOptS,Be,Bs,B5,Dv,Nat.reduceLT,Nat.reduceEqDiff,Aa,Ab,Ac,Am,Ed,Dg,h5,h11,c3,Cj,q5,q6,w1]
   exact lZ (.inr ⟨tok,off,rfl⟩) hlen hfit sp S0 hn m (j + 1) _ S5 _ (by omega) (by simp only [A0,Nat.reduceEqDiff,Ab]; exact h1) (by simp only [A0,Nat.reduceEqDiff,Ab,Aa]) (by simp only [A0,Nat.reduceEqDiff,Ab]; exact h9) (by simp only [A0,Nat.reduceEqDiff,Ab]; exact h10) (by simp only [A0,Nat.reduceEqDiff,Ab,Aa]) hS5 hrow5 fin5
end Go.Ax
noncomputable section
namespace Go.Ax
open Go.RowKit Go.Proofs
set_option maxRecDepth 100000
theorem lenRow55 (S:St) {v:AV} {l:List (List UInt8 × Nat)} (h:Ik 2 Gd v l):Je Tryz.prog S 55 v=some l.length:=by
 rcases h with ⟨rfl,rfl⟩ | ⟨tok,off,rfl⟩
 ·have:Je Tryz.prog S 55 .nils=some 0:=by kernel_rfl
  exact this
 ·have rU:Tryz.prog.underlying 55=some (.slice 59):=by kernel_rfl
  simp [Je,rU]
theorem uY {l:List PD} (hlen:l.length ≤ 100000) (hfit:∀ d ∈ l,Rg d) {sep:List UInt8} (hs:sep.length ≤ 2):(Jb l sep).length ≤ 10000000:=by
 have:=Vz (m:=83) sep (l.map G4) (fun w hw=>by
  obtain ⟨d,hd,rfl⟩:=List.mem_map.1 hw
  exact iO (hfit d hd))
 rw [List.length_map] at this
 have h2:l.length * (83 + sep.length) ≤ 100000 * 85:=Nat.mul_le_mul hlen (by omega)
 unfold Jb
 omega
theorem gX {l:List (List UInt8 × Nat)} (hlen:l.length ≤ 100000) (hfit:∀ x ∈ l,x.1.length ≤ 30):(Lib.join (l.map (·.1)) [44,32]).length ≤ 10000000:=by
 have:=Vz (m:=30) [44,32] (l.map (·.1)) (fun w hw=>by
  obtain ⟨d,hd,rfl⟩:=List.mem_map.1 hw
  exact hfit d hd)
 rw [List.length_map] at this
 have h2:l.length * (30 + ([44,32]:List UInt8).length) ≤ 100000 * 32:=Nat.mul_le_mul hlen (by simp)
 omega
set_option maxHeartbeats 16000000 in
theorem qO {v:AV} {l:List PD} (hv:Ik 6 Gt v l) (hlen:l.length ≤ 100000) (hfit:∀ d ∈ l,Rg d) (sep:List UInt8) (hsep:sep.length ≤ 2) (S:St) (hn:2 ≤ S.next):WC E6 60 [v,.v (.string ⟨⟨sep⟩⟩)] S (fun r=>∃ S',r=.ret (Cj (Jb l sep)) S' ∧ Ep S S'):=by
 refine Dt Tryz.f60 (by kernel_rfl) (by kernel_rfl) (by kernel_rfl) (show (_:Nat) ≤ _ from by show (_:Nat) ≤ _; simp [Tryz.f60]) ?_
 obtain ⟨fn1,hf1⟩:=uG
 have lk:=lenRow46 S hv
 simp only [A8,Bj,B3,D3,A6,Bl,A9,Bo,Bn,A4,Bd,Bc,B7,A0,A1,Bm,ofOpt,Be,Nat.reduceLT,Nat.reduceAdd,Nat.reduceEqDiff,Aa,Ab,Ac,Ae,Ed,Tryz.f60,lk]
 refine WX.mono (lZ hv hlen hfit (.v (.string ⟨⟨sep⟩⟩)) S hn l.length 0 _ S .nils (by omega) (by simp [T.get_set]) (by simp [T.get_set]) (by simp [T.get_set]) (by simp [T.get_set]) (by simp [T.get_set]) (Nat.le_refl _) (.inl ⟨rfl,by simp⟩) (fun _ _=>rfl)) ?_
 rintro _ ⟨t',S',a',rfl,h1,h5,hrow,hkp⟩
 have hj:=uY hlen hfit hsep
 simp only [A8,Bj,A6,Ff,Gg,A9,Bo,B6,Bn,A4,Bd,Bc,A0,Bm,Bz,ofOpt,Nat.reduceLT,Nat.reduceEqDiff,Aa,Ab,Ac,Aj,Ak,h1,h5,hf1]
 refine WC.mono (tR hrow sep (by rw [List.length_map]; omega) (by unfold Jb at hj; omega)) ?_
 rintro _ rfl
 simp only [By,A6,Bl,A9,Bo,Bn,Cz,A4,Bd,Bc,A0,ofOpt,Bi,B0,Bg,Cd,Nat.reduceLT,Nat.reduceEqDiff,Aa,Ab,Ac]
 exact ⟨_,rfl,hkp⟩
set_option maxHeartbeats 16000000 in
theorem xI {v:AV} {l:List (List UInt8 × Nat)} (hv:Ik 2 Gd v l) (hlen:l.length ≤ 100000) (S0:St) (hn:2 ≤ S0.next) :
  ∀ (m j:Nat) (t:T AV) (S:St) (a:AV),j + m=l.length → t.get 3=some a → t.get 7=some v → t.get 8=some (.v (.int .i64 (l.length:Int))) → t.get 9=some (.v (.int .i64 (j:Int))) →
   S0.next ≤ S.next → X3 S0.next S a (((l.map (·.1)).take j).map Cj) → (∀ id,id < S0.next → S.mem.get id=S0.mem.get id) →
   WX E6 28 (.loop tH) ⟨t,[]⟩ S (fun r=>∃ t' S' a',r=.out (.exit 0) ⟨t',[]⟩ S' ∧ t'.get 3=some a' ∧ X3 S0.next S' a' ((l.map (·.1)).map Cj) ∧ Ep S0 S')
 | 0,j,t,S,a,hj,h3,h7,h8,h9,hS,hrow,hkeep=>by
  refine E9 (Em ?_)
  have hlt:decide ((j:Int) < (l.length:Int))=false:=decide_eq_false (by omega)
  simp only [B9,Br,A8,Bj,Bp,B3,Dk,A6,Ff,Bl,A9,Bo,Bn,Dh,A4,Bd,Bc,A0,ofOpt,B5,Dj,Nat.reduceLT,Nat.reduceEqDiff,Aa,Ab,Ac,Ae,Am,Ed,tH,Gn,Tryz.f93,h7,h8,h9,hlt]
  refine ⟨_,_,_,rfl,by simp only [A0,Nat.reduceEqDiff,Ab]; exact h3,?_,hS,hkeep⟩
  have e:(l.map (·.1)).take j=l.map (·.1):=List.take_of_length_le (by rw [List.length_map]; omega)
  rw [e] at hrow
  exact hrow
 | m + 1,j,t,S,a,hj,h3,h7,h8,h9,hS,hrow,hkeep=>by
  refine E9 (Em ?_)
  have hlt:decide ((j:Int) < (l.length:Int))=true:=decide_eq_true (by omega)
  have hjl:j < l.length:=by omega
  obtain ⟨tok,off,rfl⟩:∃ tok off,v=.sl tok off 2 (l.map Gd):=by
   rcases hv with ⟨_,h0⟩ | h
   ·rw [h0] at hjl; cases hjl
   ·exact h
  have q1:=idx55d tok off l j hjl
  have q2:=lep59 S l[j]
  generalize hd:l[j]=d at q1 q2
  have q3:=st59w (Do S mN) rfl d
  have g3:=Et (S.newBox mN) S.next (Ho d)
  have k3:Ep S ((S.newBox mN).put S.next (Ho d)):=Ew (Dp S _) (Nat.le_refl _) _
  generalize hS3:(S.newBox mN).put S.next (Ho d)=S3 at q3 g3 k3
  have r0:Cv Tryz.prog S3 9 (.ptr S.next 0)=some (.v (.string ⟨⟨d.1⟩⟩)):=ld9k g3 0 (by show 0 < 2; omega)
  have w1:IntKind.i64.wrap ((j:Int) + 1)=((j + 1:Nat):Int):=I1 (j:=1) (by omega)
  obtain ⟨S5,q5,hrow5,hn5,hk5⟩:=sP (hrow.keep k3) (by have:=k3.1; omega) (Nat.le_trans hS k3.1) d.1 (by rw [List.length_map,List.length_take]; omega)
  have q6:=row69 d.1
  have eR:(((l.map (·.1)).take (j + 1)).map Cj)=(((l.map (·.1)).take j).map Cj) ++ [.v (.string ⟨⟨d.1⟩⟩)]:=by
   rw [List.take_add_one,List.map_append,List.getElem?_map,List.getElem?_eq_getElem hjl,hd]; rfl
  rw [← eR] at hrow5
  rw [← eR] at q5
  have fin5:∀ id,id < S0.next → S5.mem.get id=S0.mem.get id:=fun id hid=>by rw [hk5 id hid,k3.2 id (by omega)]; exact hkeep id hid
  have hS5:S0.next ≤ S5.next:=Nat.le_trans hS (Nat.le_trans k3.1 hn5)
  simp only [B4,B9,Br,A8,Bj,Bp,B3,Dk,A6,Ff,Ca,Bl,A9,Bo,F4,Gj,Bn,C6,A4,Bd,Bc,A0,Bm,ofOpt,ofOptS,Be,Bs,B5,Dj,Dv,Nat.reduceLT,Nat.reduceEqDiff,Aa,Ab,Ac,Ae,Am,Ed,tH,Gn,Tryz.f93,h3,h7,h8,h9,hlt,q1,q2,alo59,q3,fd59_0,r0,q5,q6,w1]
  exact xI (.inr ⟨tok,off,rfl⟩) hlen S0 hn m (j + 1) _ S5 _ (by omega) (by simp only [A0,Nat.reduceEqDiff,Ab,Aa]) (by simp only [A0,Nat.reduceEqDiff,Ab]; exact h7) (by simp only [A0,Nat.reduceEqDiff,Ab]; exact h8) (by simp only [A0,Nat.reduceEqDiff,Ab,Aa]) hS5 hrow5 fin5
set_option maxHeartbeats 16000000 in
theorem tN {v:AV} {l:List (List UInt8 × Nat)} (hv:Ik 2 Gd v l) (hlen:l.length ≤ 100000) (hfit:∀ x ∈ l,x.1.length ≤ 30) (S:St) (hn:2 ≤ S.next):WC E6 93 [v] S (fun r=>∃ S',r=.ret (Cj (Kq l)) S' ∧ Ep S S'):=by
 refine Dt Tryz.f93 (by kernel_rfl) (by kernel_rfl) (by kernel_rfl) (show (_:Nat) ≤ _ from by show (_:Nat) ≤ _; simp [Tryz.f93]) ?_
 obtain ⟨fn1,hf1⟩:=uG
 have lk:=lenRow55 S hv
 simp only [A8,Bj,B3,D3,A6,Bl,A9,Bo,Bn,A4,Bd,Bc,B7,A0,A1,Bm,ofOpt,Be,Nat.reduceLT,Nat.reduceEqDiff,Aa,Ab,Ac,Ae,Ed,Tryz.f93,lk]
 refine WX.mono (xI hv hlen S hn l.length 0 _ S .nils (by omega) (by simp [T.get_set]) (by simp [T.get_set]) (by simp [T.get_set]) (by simp [T.get_set]) (Nat.le_refl _) (.inl ⟨rfl,by simp⟩) (fun _ _=>rfl)) ?_
 rintro _ ⟨t',S',a',rfl,h3,hrow,hkp⟩
 have hj:=gX hlen hfit
 simp only [A8,Bj,A6,Ff,Gg,A9,Bo,B6,Bn,A4,Bd,Bc,A0,Bm,Bz,ofOpt,Be,Nat.reduceLT,Aa,Ac,Aj,Ak,h3,hf1]
 refine WC.mono (tR hrow [44,32] (by rw [List.length_map]; omega) (by omega)) ?_
 rintro _ rfl
 have lk2:=lenRow69 hrow
 rw [List.length_map,List.length_map] at lk2
 have eL:Kq l=if 1 < l.length then ([40] ++ Lib.join (l.map (·.1)) [44,32]) ++ [41] else Lib.join (l.map (·.1)) [44,32]:=rfl
 rw [eL]
 generalize Lib.join (l.map (·.1)) [44,32]=J at hj
 have q1:=D7 [40] J (by simp; omega)
 have q2:=D7 ([40] ++ J) [41] (by simp; omega)
 by_cases h1:1 < l.length
 ·have hd:decide ((l.length:Int) > 1)=true:=decide_eq_true (by omega)
  simp only [Br,A8,Bj,Bp,By,A6,Cb,Bl,A9,Bo,Bn,Cz,C6,A4,Bd,Bc,A0,Bm,ofOpt,Be,B5,Bi,B0,Bg,Cd,Dr,Nat.reduceLT,Nat.reduceEqDiff,Aa,Ab,Ac,Am,Ed,Dg,h3,lk2,hd,q1,q2,Cj]
  exact ⟨_,by rw [if_pos h1],hkp⟩
 ·have hd:decide ((l.length:Int) > 1)=false:=decide_eq_false (by omega)
  simp only [Br,A8,Bj,Bp,By,A6,Bl,A9,Bo,Bn,Cz,Dh,A4,Bd,Bc,A0,Bm,ofOpt,Be,B5,Bi,B0,Bg,Cd,Dr,Nat.reduceLT,Nat.reduceEqDiff,Aa,Ab,Ac,Am,Ed,Wc,Dg,h3,lk2,hd,Cj]
  exact ⟨_,by rw [if_neg h1],hkp⟩
theorem fd57_0 (b:Nat):Cy Tryz.prog 57 (.ptr b 0) 0=some (.ptr b 0):=by kernel_rfl
theorem ag55:Fs Tryz.prog 55=some false:=by kernel_rfl
theorem ldq0 {S:St} {id:Nat} {lv:AV} {a:Bool} {xs:List AV} (h:S.mem.get id=some (.box (eqC lv a xs))):Cv Tryz.prog S 55 (.ptr id 0)=some lv:=by
 simp [Cv,Dc,h,ag55,eqC]
theorem ldq1 {S:St} {id:Nat} {lv:AV} {a:Bool} {xs:List AV} (h:S.mem.get id=some (.box (eqC lv a xs))):Cv Tryz.prog S 4 (.ptr id 1)=some (.v (.bool a)):=by
 simp [Cv,Dc,h,ag4,eqC]
theorem ldq2 {S:St} {id:Nat} {lv:AV} {a:Bool} {xs:List AV} (h:S.mem.get id=some (.box (eqC lv a xs))) (hx:xs.length=6):Cv Tryz.prog S 30 (.ptr id 2)=some (.agg xs):=by
 have e:xs.take 6=xs:=List.take_of_length_le (by omega)
 simp [Cv,Dc,h,a30,s30,eqC,hx,e]
set_option maxHeartbeats 16000000 in
theorem eqText_w {v:AV} {q:PQ} (hv:Y5 v q) (hfit:FitQ q) (S:St) (hn:2 ≤ S.next):WC E6 61 [v] S (fun r=>∃ S',r=.ret (Cj (eqT q)) S' ∧ Ep S S'):=by
 obtain ⟨lv,xs,rfl,hl,hx,hr⟩:=hv
 obtain ⟨f1,f2,f3,f4⟩:=hfit
 refine Dt Tryz.f61 (by kernel_rfl) (by kernel_rfl) (by kernel_rfl) (show (_:Nat) ≤ _ from by show (_:Nat) ≤ _; simp [Tryz.f61]) ?_
 obtain ⟨fn1,hf1⟩:=fn6_93
 obtain ⟨fn2,hf2⟩:=fn6_17
 have g1:=Do S (eqC lv q.async xs)
 have k1:=Dp S (eqC lv q.async xs)
 have lt1:S.next < (S.newBox (eqC lv q.async xs)).next:=Nat.lt_succ_self _
 have n1:2 ≤ (S.newBox (eqC lv q.async xs)).next:=Nat.le_trans hn k1.1
 generalize hS1:S.newBox (eqC lv q.async xs)=S1 at g1 k1 lt1 n1
 have l0:=ldq0 g1
 simp only [A8,Bj,A6,Bl,A9,Bo,B6,Bn,A4,Bd,Bc,B7,A0,A1,Bm,Bz,ofOpt,Be,Nat.reduceLT,Nat.reduceEqDiff,Aa,Ab,Ac,Ae,Aj,Ak,Ed,Tryz.f61,hS1,Cm,Cn,fd57_0,l0,hf1]
 refine WC.mono (tN hl f1 f2 S1 n1) ?_
 rintro _ ⟨S2,rfl,k2⟩
 have g2:=(k2.2 _ lt1).trans g1
 have m1:=ldq1 g2
 have m2:=ldq2 g2 hx
 have hj:=gX f1 f2
 have hL:(Kq q.left).length ≤ 10000002:=by unfold Kq; split <;> first | omega | (simp only [List.length_append,List.length_cons,List.length_nil]; omega)
 have hE:=Z6 f3
 have eQ:eqT q=(if q.async then (Kq q.left ++ [32,61,32]) ++ [97,115,121,110,99,32] else Kq q.left ++ [32,61,32]) ++ Fz q.e:=rfl
 rw [eQ]
 generalize Kq q.left=A at hL
 have q1:=D7 A [32,61,32] (by simp; omega)
 have q2:=D7 (A ++ [32,61,32]) [97,115,121,110,99,32] (by simp; omega)
 have q3:=D7 (A ++ [32,61,32]) (Fz q.e) (by simp; omega)
 have q4:=D7 ((A ++ [32,61,32]) ++ [97,115,121,110,99,32]) (Fz q.e) (by simp; omega)
 have n2:2 ≤ S2.next:=Nat.le_trans n1 k2.1
 cases ha:q.async with
 | true =>
  rw [ha] at m1
  simp only [Br,A8,Bj,Bp,A6,Bl,A9,Bo,B6,Bn,Cz,C6,A4,Bd,Bc,A0,A1,Bm,Bz,ofOpt,Be,Nat.reduceLT,Nat.reduceEqDiff,Aa,Ab,Ac,Aj,Ak,Am,Ed,Dg,fq1,fq2,m1,m2,hf2,q1,q2,Cj]
  refine WC.mono (text_w f3 f4 xs hr S2 n2) ?_
  rintro _ ⟨S3,rfl,k3⟩
  simp only [By,A6,Bl,A9,Bo,Bn,Cz,A4,Bd,Bc,A0,A1,ofOpt,Bi,B0,Bg,Cd,Nat.reduceLT,Nat.reduceEqDiff,Aa,Ab,Ac,Am,Ed,Dg,q4,Cj]
  exact ⟨_,rfl,(k1.trans k2).trans k3⟩
 | false =>
  rw [ha] at m1
  simp only [Br,A8,Bj,Bp,A6,Bl,A9,Bo,B6,Bn,Cz,Dh,A4,Bd,Bc,A0,A1,Bm,Bz,ofOpt,Be,Nat.reduceLT,Nat.reduceEqDiff,Aa,Ab,Ac,Aj,Ak,Am,Ed,Wc,Dg,fq1,fq2,m1,m2,hf2,q1,Cj]
  refine WC.mono (text_w f3 f4 xs hr S2 n2) ?_
  rintro _ ⟨S3,rfl,k3⟩
  simp only [By,A6,Bl,A9,Bo,Bn,Cz,A4,Bd,Bc,A0,A1,ofOpt,Bi,B0,Bg,Cd,Nat.reduceLT,Nat.reduceEqDiff,Aa,Ab,Ac,Am,Ed,Dg,q3,Cj]
  exact ⟨_,rfl,(k1.trans k2).trans k3⟩
end Go.Ax
