/- Pf -/
import Derived.Test.YtjgknelmjdallaaGreatDoorTdG14
set_option linter.unusedVariables false
set_option linter.unusedSimpArgs false
set_option maxHeartbeats 16000000
noncomputable section
namespace Go.Ax
open Go.RowKit Go.Proofs
set_option maxRecDepth 100000
theorem mM:∃ fn,E1.F 148=some fn:=Option.isSome_iff_exists.1 (by kernel_rfl)
theorem fnOk149:∃ fn,E1.F 149=some fn:=Option.isSome_iff_exists.1 (by kernel_rfl)
theorem fnOk208:∃ fn,E1.F 208=some fn:=Option.isSome_iff_exists.1 (by kernel_rfl)
theorem fnOk210:∃ fn,E1.F 210=some fn:=Option.isSome_iff_exists.1 (by kernel_rfl)
theorem fnOk211:∃ fn,E1.F 211=some fn:=Option.isSome_iff_exists.1 (by kernel_rfl)
theorem fnOk213:∃ fn,E1.F 213=some fn:=Option.isSome_iff_exists.1 (by kernel_rfl)
theorem fnOk214:∃ fn,E1.F 214=some fn:=Option.isSome_iff_exists.1 (by kernel_rfl)
theorem fnOk179:∃ fn,E1.F 179=some fn:=Option.isSome_iff_exists.1 (by kernel_rfl)
def Pu (m p:Nat):AV:=.fn (.func m) [.ptr p 0] []
def yX:Code:=match Tryz.f148.body with
 | some (.seq _ (.seq _ (.block _ (.loop c))))=>c
 | some (.seq _ (.seq _ (.seq (.block _ (.loop c)) _)))=>c
 | _=>.skip
def nA:Code:=match Tryz.f213.body with
 | some (.seq _ (.seq _ (.block _ (.loop c))))=>c
 | some (.seq _ (.seq _ (.seq (.block _ (.loop c)) _)))=>c
 | _=>.skip
def LoopEx (p k:Nat) (ts:List Tk) (S0:St) (d:Nat) (x:PR PE) (r:O):Prop:=match x with
 | .ok a j=>∃ t' S' ys,r=.out .ret ⟨t',[]⟩ S' ∧ t'.get d=some (.ptr S0.next 0) ∧ Cd Tryz.prog S' 30 (.ptr S0.next 0)=some (.agg ys) ∧ RepE (.agg ys) a ∧ D7 p S0 S' ∧ Cur S' p k ts j ∧ j < ts.length
 | .bad a e=>∃ t' S',r=.out (.pan (Zm a e)) ⟨t',[]⟩ S' ∧ D7 p S0 S'
 | .out=>False
theorem Zj {p k i b c:Nat} {S S0:St} {ts:List Tk} {xs ys cs:List AV} (x:D7 p S0 S) (hb:S0.next ≤ b) (h:Has p S b xs) (cu:Cur S p k ts i) (hr:Has p S c cs) (hne:b ≠ c):D7 p S0 (S.put b ys) ∧ Cur (S.put b ys) p k ts i ∧ Has p (S.put b ys) b ys ∧ Has p (S.put b ys) c cs :=
 ⟨Jw x hb _,cu.put (fun e=>h.ne e.symm) _,⟨Ed _ _ _,h.lt,h.ne⟩,⟨(Eg (fun e=>hne e.symm)).trans hr.get,hr.lt,hr.ne⟩⟩
section
variable {p k:Nat} {ts:List Tk} (hts:TokOk ts)
include hts
theorem row_loop (m:Nat) (kid:Nat → PR PE) (hF:∃ fn,E1.F m=some fn) (hkid:Con p k ts m kid) (ws:List (List UInt8)) (hw:ws.length ≤ 1000) (he:[] ∉ ws) (S0:St):∀ (n:Nat) (x:PE) (i:Nat) (t:T AV) (S:St) (b:Nat) (xs0:List AV),Lp ts ws kid n x i ≠ .out →
  t.get 0=some (.ptr p 0) → t.get 1=some (Pu m p) → t.get 2=some (wsA 1 0 ws) → t.get 6=some (.ptr S0.next 0) → t.get 7=some (.ptr b 0) → Cur S p k ts i → p < S.next → i < ts.length → Has p S S0.next exZ → Has p S b xs0 → xs0.length=6 → RepE (.agg xs0) x → S0.next ≤ b → b ≠ S0.next → D7 p S0 S →
  WX E1 28 (.loop yX) ⟨t,[]⟩ S (LoopEx p k ts S0 6 (Lp ts ws kid n x i))
 | 0,x,i,t,S,b,xs0,ho,h0,h1,h2,h6,h7,h,hp,hi,hr,hb,hl0,hr0,hle,hne,hx=>absurd rfl ho
 | n + 1,x,i,t,S,b,xs0,ho,h0,h1,h2,h6,h7,h,hp,hi,hr,hb,hl0,hr0,hle,hne,hx=>by
  refine Do (Dh ?_)
  obtain ⟨fn1,hf1⟩:=Lj
  obtain ⟨fn2,hf2⟩:=hF
  obtain ⟨fn3,hf3⟩:=fnOk174
  unfold Pu at h1
  have rf0:=RepE.refl hr0
  have eP:Lp ts ws kid (n + 1) x i=if (tk ts i).text ∈ ws then (kid (i + 1)).bind fun y j=>Lp ts ws kid n (.mk 6 (tk ts i).pos 0 (tk ts i).text false [x,y]) j else .ok x i:=rfl
  rw [eP] at ho ⊢
  clear eP
  by_cases hm:(tk ts i).text ∈ ws
  ·rw [if_pos hm] at ho ⊢
   simp only [A6,Bk,Bq,A7,Bf,Bh,Bd,A5,Bc,Ba,A0,Bm,B5,ofOpt,Cp,Nat.reduceLT,Nat.reduceEqDiff,Aa,Ab,Ac,Aj,Ak,Tryz.f148,fp0,hf1,h0,h2,yX]
   refine WC.mono (L4 h hp hi hts 1 0 ws hw he hm) ?_
   rintro _ ⟨S1,rfl,x1,c1,hi1,hp1⟩
   have y2:=(hx).trans x1
   have br_2:=hr.keep x1
   have bx_2:=hb.keep x1
   obtain ⟨S3,q3,x3,c3,bt,hp3⟩:=Fs c1 hp1 (tk ts i)
   have y4:=(y2).trans x3
   have br_4:=br_2.keep x3
   have bx_4:=bx_2.keep x3
   have l5:=bt.ld68
   have l6:=bx_4.ld30 hl0
   simp only [Bo,A6,Co,Bk,Bl,Bj,Ch,A7,Bf,Br,Bu,Bd,Bp,C8,A5,Bc,Ba,A0,ofOpt,ofOptS,Cp,Fj,C6,Db,Nat.reduceLT,Nat.reduceEqDiff,Aa,Ab,Ac,Ag,Ah,Ar,G9,Cw,h6,h7,q3,l6]
   refine Fv [(0,true),(1,true),(2,true),(3,true),(1,false),(0,false),(4,true),(5,true)] (by kernel_rfl) (by kernel_rfl) ?_
   simp only [A5,Bc,Ba,A0,Bm,B5,ofOpt,Cp,Nat.reduceLT,Nat.reduceEqDiff,Aa,Ab,Ac,Af,Ag,Ah,Ak,Am,Dr,Ee,Eb,Du,F4,hf2,h1,h7,l5,l6]
   have ne7:=Gp ho
   refine WC.mono (hkid _ _ c3 hp3 hi1 ne7) ?_
   cases hX8:kid (i + 1) with
   | out=>exact absurd hX8 ne7
   | bad a e =>
    rintro _ ⟨S8,rfl,x8⟩
    simp only [Dy,Dc,Fp,F7]
    exact ⟨_,_,rfl,y4.trans x8⟩
   | ok a8 j8 =>
    rw [hX8] at ho; rw [D2] at ho ⊢
    rintro _ ⟨v8,S8,rfl,hr8,x8,c8,hi8⟩
    obtain ⟨xs8,rfl,hl8⟩:=RepE.agg hr8
    have rf8:=RepE.refl hr8
    have hp8:p < S8.next:=Nat.lt_of_lt_of_le hp3 x8.1
    have y9:=(y4).trans x8
    have br_9:=br_4.keep x8
    have bx_9:=bx_4.keep x8
    have bt_9:=bt.keep x8
    have l10:=bt_9.ld68
    have l11:=bx_9.ld30 hl0
    simp only [A5,Bc,Ba,A0,Bm,B5,ofOpt,Cp,Nat.reduceLT,Nat.reduceEqDiff,Aa,Ab,Ac,Aj,Ak,Dr,Kf,Eb,Du,Ep,D6,Em,G1,hf3,h7,rf0,l10,l11]
    refine WC.mono (binary_w _ (tk ts i) xs0 xs8 hl0 hl8) ?_
    rintro _ ⟨S12,rfl,k12⟩
    have x12:=k12.x p
    have c12:=c8.keep hp8 k12
    have hp12:p < S12.next:=Nat.lt_of_lt_of_le hp8 x12.1
    have y13:=(y9).trans x12
    have br_13:=br_9.keep x12
    have bx_13:=bx_9.keep x12
    have bt_13:=bt_9.keep x12
    have st:=Xa (ys:=exC 6 (tk ts i).pos 0 (tk ts i).text false (.sl 1 0 6 [.agg xs0,.agg xs8])) bx_13.get hl0 rfl
    obtain ⟨px,pc,pb,pr⟩:=Zj (ys:=exC 6 (tk ts i).pos 0 (tk ts i).text false (.sl 1 0 6 [.agg xs0,.agg xs8])) y13 hle bx_13 c12 br_13 hne
    simp only [Bw,Cf,A5,Bc,Ba,A0,Cp,Nat.reduceLT,Nat.reduceEqDiff,Aa,Ab,Ac,Nh,Dr,Fb,Fa,Du,Ep,Ei,h7,st]
    exact row_loop m kid ⟨_,hf2⟩ hkid ws hw he S0 n _ _ _ _ b _ ho (by simp [T.get_set,h0]) (by simp [T.get_set,h1,Pu]) (by simp [T.get_set,h2]) (by simp [T.get_set,h6]) (by simp [T.get_set,h7]) pc hp12 hi8 pr pb rfl (.mk 6 (tk ts i).pos 0 (tk ts i).text false _ _ (.row _ _ _ _ (.cons _ _ _ _ hr0 (.cons _ _ _ _ hr8 .nil)))) hle hne px
  ·rw [if_neg hm] at ho ⊢
   simp only [A6,Bk,Bq,A7,Bf,Bh,Bd,A5,Bc,Ba,A0,Bm,B5,ofOpt,Cp,Nat.reduceLT,Nat.reduceEqDiff,Aa,Ab,Ac,Aj,Ak,Tryz.f148,fp0,hf1,h0,h2,yX]
   refine WC.mono (Np h hp hi hts 1 0 ws hw hm) ?_
   rintro _ ⟨S14,rfl,x14,c14,hi14,hp14⟩
   have y15:=(hx).trans x14
   have br_15:=hr.keep x14
   have bx_15:=hb.keep x14
   obtain ⟨S16,q16,x16,c16,bt,hp16⟩:=Fs c14 hp14 Ea
   have y17:=(y15).trans x16
   have br_17:=br_15.keep x16
   have bx_17:=bx_15.keep x16
   have l18:=bx_17.ld30 hl0
   obtain ⟨g19,h19,gx,gc⟩:=G4 (S0:=S0) c16 br_17 rfl (Nat.le_refl _) y17 (xs:=xs0) hl0
   simp only [Dk,Bo,A6,Co,Bk,Bl,B1,Bj,Dd,C9,Ch,A7,Bf,Br,Bu,Bd,Bp,De,A5,Bc,Ba,A0,ofOpt,ofOptS,Cp,Fj,C6,Db,Nat.reduceLT,Nat.reduceEqDiff,Aa,Ab,Ac,Ag,Ah,Au,G9,Cw,h6,h7,q16,l18,g19]
   exact ⟨_,_,xs0,rfl,by simp [T.get_set,h6],h19,hr0,gx,gc,hi14⟩
theorem row_p (m:Nat) (kid:Nat → PR PE) (hF:∃ fn,E1.F m=some fn) (hkid:Con p k ts m kid) (ws:List (List UInt8)) (hw:ws.length ≤ 1000) (he:[] ∉ ws) (n:Nat) (S:St) (i:Nat) (h:Cur S p k ts i) (hp:p < S.next) (hi:i < ts.length) (ho:((kid i).bind fun x j=>Lp ts ws kid n x j) ≠ .out):WC E1 148 [.ptr p 0,Pu m p,wsA 1 0 ws] S (Re p k ts S RepE ((kid i).bind fun x j=>Lp ts ws kid n x j)):=by
 refine Dv Tryz.f148 (by kernel_rfl) (by kernel_rfl) (by kernel_rfl) (by show (_:Nat) ≤ _;simp [Tryz.f148]) ?_
 obtain ⟨fn2,hf2⟩:=hF
 obtain ⟨x1,c1,br,hp1⟩:=Ks h hp
 have y2:=x1
 have ne3:=Gp ho
 have ha6:=Ks h hp
 simp only [A6,Bk,Bj,Ch,A7,Bf,Bh,Bd,A5,Bc,Ba,Ce,A0,A1,Bm,B5,ofOpt,ofOptS,Cp,Nat.reduceLT,Nat.reduceAdd,Nat.reduceEqDiff,Aa,Ab,Ac,Ae,Ak,Tryz.f148,Gu,hf2,Pu]
 refine WC.mono (hkid _ _ c1 hp1 hi ne3) ?_
 cases hX4:kid i with
 | out=>exact absurd hX4 ne3
 | bad a e =>
  rintro _ ⟨S4,rfl,x4⟩
  simp only [Cl,Cq,Cg]
  exact ⟨_,rfl,y2.trans x4⟩
 | ok a4 j4 =>
  rw [hX4] at ho; rw [D2] at ho ⊢
  rintro _ ⟨v4,S4,rfl,hr4,x4,c4,hi4⟩
  obtain ⟨xs4,rfl,hl4⟩:=RepE.agg hr4
  have rf4:=RepE.refl hr4
  have hp4:p < S4.next:=Nat.lt_of_lt_of_le hp1 x4.1
  have y5:=(y2).trans x4
  have br_5:=br.keep x4
  obtain ⟨S6,q6,x6,c6,bx,hp6⟩:=Vm c4 hp4 (xs:=xs4) hl4
  have y7:=(y5).trans x6
  have br_7:=br_5.keep x6
  simp only [Bq,Dx,Bj,Ch,A7,Bf,Br,Bu,Bd,Bp,A5,Bc,Ba,A0,A1,ofOptS,Cp,Nat.reduceLT,Nat.reduceEqDiff,Aa,Ab,Ac,Gu,q6]
  have hbr:=br_7.lt
  refine WX.mono (row_loop hts m kid ⟨_,hf2⟩ hkid ws hw he S n a4 j4 _ _ _ xs4 ho (by simp [T.get_set]) (by simp [T.get_set,Pu]) (by simp [T.get_set]) (by simp [T.get_set]) (by simp [T.get_set]) c6 hp6 hi4 br_7 bx hl4 hr4 (Nat.le_trans (Nat.le_succ _) x4.1) (by have:=x4.1; have e:(S.newBox exZ).next=S.next + 1:=rfl; omega) y7) ?_
  cases hR:Lp ts ws kid n a4 j4 with
  | out=>exact absurd hR ho
  | bad a e =>
   rintro _ ⟨t9,S9,rfl,x9⟩
   simp only [Dc,Cg]
   exact ⟨_,rfl,x9⟩
  | ok a j =>
   rintro _ ⟨t9,S9,ys,rfl,g9,l9,r9,x9,c9,i9⟩
   simp only [C9,Cp,Bi,B0,Bg,Cs,g9,l9]
   exact ⟨_,_,rfl,r9,x9,c9,i9⟩
variable (n:Nat)
theorem or_p (ihand:Con p k ts 149 (P ts n .and)):Con p k ts 116 (P ts (n + 1) .or):=fun S i h hp hi ho=>by
 obtain ⟨fn1,hf1⟩:=mM
 obtain ⟨fn2,hf2⟩:=fnOk149
 refine Dv Tryz.f116 (by kernel_rfl) (by kernel_rfl) (by kernel_rfl) (by show (_:Nat) ≤ _;simp [Tryz.f116]) ?_
 have eP:P ts (n + 1) .or i=(P ts n .and i).bind fun x j=>Lp ts [[111,114],[120,111,114]] (P ts n .and) n x j:=rfl
 rw [eP] at ho ⊢
 clear eP
 obtain ⟨x1,c1,br,hp1⟩:=Ks h hp
 have y2:=x1
 simp only [A6,Bk,Bj,Ch,A7,Bf,Bh,Bd,A5,Bc,Ba,Ce,A0,A1,Bm,B5,ofOpt,ofOptS,Bb,Cp,Bz,Nat.reduceLT,Nat.reduceEqDiff,Aa,Ab,Ac,Ae,Aj,Ak,Tryz.f116,Gu,Yw,hf1]
 refine WC.mono (row_p hts 149 _ ⟨_,hf2⟩ ihand [[111,114],[120,111,114]] (by decide) (by decide) n _ _ c1 hp1 hi ho) ?_
 cases hX3:(P ts n .and i).bind fun x j=>Lp ts [[111,114],[120,111,114]] (P ts n .and) n x j with
 | out=>exact absurd hX3 ho
 | bad a e =>
  rintro _ ⟨S3,rfl,x3⟩
  simp only [Cl,Cq,Cg]
  exact ⟨_,rfl,y2.trans x3⟩
 | ok a3 j3 =>
  rintro _ ⟨v3,S3,rfl,hr3,x3,c3,hi3⟩
  obtain ⟨xs3,rfl,hl3⟩:=RepE.agg hr3
  have hp3:p < S3.next:=Nat.lt_of_lt_of_le hp1 x3.1
  have y4:=(y2).trans x3
  have br_4:=br.keep x3
  obtain ⟨g5,h5,gx,gc⟩:=G4 (S0:=S) c3 br_4 rfl (Nat.le_refl _) y4 (xs:=xs3) hl3
  simp only [B1,Bj,Ch,A7,Br,Bu,Bd,Bp,A5,Bc,Ba,A0,A1,Cp,Bi,B0,Bg,Cs,Nat.reduceLT,Nat.reduceEqDiff,Aa,Ab,Ac,g5,h5]
  exact ⟨_,_,rfl,hr3,gx,gc,hi3⟩
theorem and_p (ihnot:Con p k ts 175 (P ts n .not)):Con p k ts 149 (P ts (n + 1) .and):=fun S i h hp hi ho=>by
 obtain ⟨fn1,hf1⟩:=mM
 obtain ⟨fn2,hf2⟩:=fnOk175
 refine Dv Tryz.f149 (by kernel_rfl) (by kernel_rfl) (by kernel_rfl) (by show (_:Nat) ≤ _;simp [Tryz.f149]) ?_
 have eP:P ts (n + 1) .and i=(P ts n .not i).bind fun x j=>Lp ts [[97,110,100]] (P ts n .not) n x j:=rfl
 rw [eP] at ho ⊢
 clear eP
 obtain ⟨x1,c1,br,hp1⟩:=Ks h hp
 have y2:=x1
 simp only [A6,Bk,Bj,Ch,A7,Bf,Bh,Bd,A5,Bc,Ba,Ce,A0,A1,Bm,B5,ofOpt,ofOptS,Bb,Cp,Bz,Nat.reduceLT,Nat.reduceEqDiff,Aa,Ab,Ac,Ae,Aj,Ak,Tryz.f149,Gu,Ec,hf1]
 refine WC.mono (row_p hts 175 _ ⟨_,hf2⟩ ihnot [[97,110,100]] (by decide) (by decide) n _ _ c1 hp1 hi ho) ?_
 cases hX3:(P ts n .not i).bind fun x j=>Lp ts [[97,110,100]] (P ts n .not) n x j with
 | out=>exact absurd hX3 ho
 | bad a e =>
  rintro _ ⟨S3,rfl,x3⟩
  simp only [Cl,Cq,Cg]
  exact ⟨_,rfl,y2.trans x3⟩
 | ok a3 j3 =>
  rintro _ ⟨v3,S3,rfl,hr3,x3,c3,hi3⟩
  obtain ⟨xs3,rfl,hl3⟩:=RepE.agg hr3
  have hp3:p < S3.next:=Nat.lt_of_lt_of_le hp1 x3.1
  have y4:=(y2).trans x3
  have br_4:=br.keep x3
  obtain ⟨g5,h5,gx,gc⟩:=G4 (S0:=S) c3 br_4 rfl (Nat.le_refl _) y4 (xs:=xs3) hl3
  simp only [B1,Bj,Ch,A7,Br,Bu,Bd,Bp,A5,Bc,Ba,A0,A1,Cp,Bi,B0,Bg,Cs,Nat.reduceLT,Nat.reduceEqDiff,Aa,Ab,Ac,g5,h5]
  exact ⟨_,_,rfl,hr3,gx,gc,hi3⟩
theorem sum_p (ihterm:Con p k ts 208 (P ts n .term)):Con p k ts 201 (P ts (n + 1) .sum):=fun S i h hp hi ho=>by
 obtain ⟨fn1,hf1⟩:=mM
 obtain ⟨fn2,hf2⟩:=fnOk208
 refine Dv Tryz.f201 (by kernel_rfl) (by kernel_rfl) (by kernel_rfl) (by show (_:Nat) ≤ _;simp [Tryz.f201]) ?_
 have eP:P ts (n + 1) .sum i=(P ts n .term i).bind fun x j=>Lp ts [[43],[45]] (P ts n .term) n x j:=rfl
 rw [eP] at ho ⊢
 clear eP
 obtain ⟨x1,c1,br,hp1⟩:=Ks h hp
 have y2:=x1
 simp only [A6,Bk,Bj,Ch,A7,Bf,Bh,Bd,A5,Bc,Ba,Ce,A0,A1,Bm,B5,ofOpt,ofOptS,Bb,Cp,Bz,Nat.reduceLT,Nat.reduceEqDiff,Aa,Ab,Ac,Ae,Aj,Ak,Tryz.f201,Gu,Yw,hf1]
 refine WC.mono (row_p hts 208 _ ⟨_,hf2⟩ ihterm [[43],[45]] (by decide) (by decide) n _ _ c1 hp1 hi ho) ?_
 cases hX3:(P ts n .term i).bind fun x j=>Lp ts [[43],[45]] (P ts n .term) n x j with
 | out=>exact absurd hX3 ho
 | bad a e =>
  rintro _ ⟨S3,rfl,x3⟩
  simp only [Cl,Cq,Cg]
  exact ⟨_,rfl,y2.trans x3⟩
 | ok a3 j3 =>
  rintro _ ⟨v3,S3,rfl,hr3,x3,c3,hi3⟩
  obtain ⟨xs3,rfl,hl3⟩:=RepE.agg hr3
  have hp3:p < S3.next:=Nat.lt_of_lt_of_le hp1 x3.1
  have y4:=(y2).trans x3
  have br_4:=br.keep x3
  obtain ⟨g5,h5,gx,gc⟩:=G4 (S0:=S) c3 br_4 rfl (Nat.le_refl _) y4 (xs:=xs3) hl3
  simp only [B1,Bj,Ch,A7,Br,Bu,Bd,Bp,A5,Bc,Ba,A0,A1,Cp,Bi,B0,Bg,Cs,Nat.reduceLT,Nat.reduceEqDiff,Aa,Ab,Ac,g5,h5]
  exact ⟨_,_,rfl,hr3,gx,gc,hi3⟩
theorem term_p (ihunary:Con p k ts 210 (P ts n .unary)):Con p k ts 208 (P ts (n + 1) .term):=fun S i h hp hi ho=>by
 obtain ⟨fn1,hf1⟩:=mM
 obtain ⟨fn2,hf2⟩:=fnOk210
 refine Dv Tryz.f208 (by kernel_rfl) (by kernel_rfl) (by kernel_rfl) (by show (_:Nat) ≤ _;simp [Tryz.f208]) ?_
 have eP:P ts (n + 1) .term i=(P ts n .unary i).bind fun x j=>Lp ts [[42],[47],[109,111,100]] (P ts n .unary) n x j:=rfl
 rw [eP] at ho ⊢
 clear eP
 obtain ⟨x1,c1,br,hp1⟩:=Ks h hp
 have y2:=x1
 simp only [A6,Bk,Bj,Ch,A7,Bf,Bh,Bd,A5,Bc,Ba,Ce,A0,A1,Bm,B5,ofOpt,ofOptS,Bb,Cp,Bz,Nat.reduceLT,Nat.reduceEqDiff,Aa,Ab,Ac,Ae,Aj,Ak,Tryz.f208,Gu,row69_3,hf1]
 refine WC.mono (row_p hts 210 _ ⟨_,hf2⟩ ihunary [[42],[47],[109,111,100]] (by decide) (by decide) n _ _ c1 hp1 hi ho) ?_
 cases hX3:(P ts n .unary i).bind fun x j=>Lp ts [[42],[47],[109,111,100]] (P ts n .unary) n x j with
 | out=>exact absurd hX3 ho
 | bad a e =>
  rintro _ ⟨S3,rfl,x3⟩
  simp only [Cl,Cq,Cg]
  exact ⟨_,rfl,y2.trans x3⟩
 | ok a3 j3 =>
  rintro _ ⟨v3,S3,rfl,hr3,x3,c3,hi3⟩
  obtain ⟨xs3,rfl,hl3⟩:=RepE.agg hr3
  have hp3:p < S3.next:=Nat.lt_of_lt_of_le hp1 x3.1
  have y4:=(y2).trans x3
  have br_4:=br.keep x3
  obtain ⟨g5,h5,gx,gc⟩:=G4 (S0:=S) c3 br_4 rfl (Nat.le_refl _) y4 (xs:=xs3) hl3
  simp only [B1,Bj,Ch,A7,Br,Bu,Bd,Bp,A5,Bc,Ba,A0,A1,Cp,Bi,B0,Bg,Cs,Nat.reduceLT,Nat.reduceEqDiff,Aa,Ab,Ac,g5,h5]
  exact ⟨_,_,rfl,hr3,gx,gc,hi3⟩
theorem not_p (ihnot:Con p k ts 175 (P ts n .not)) (ihsum:Con p k ts 201 (P ts n .sum)):Con p k ts 175 (P ts (n + 1) .not):=fun S i h hp hi ho=>by
 obtain ⟨fn1,hf1⟩:=Lj
 obtain ⟨fn2,hf2⟩:=fnOk175
 obtain ⟨fn3,hf3⟩:=fnOk201
 obtain ⟨fn4,hf4⟩:=X4
 obtain ⟨fn5,hf5⟩:=fnOk174
 refine Dv Tryz.f175 (by kernel_rfl) (by kernel_rfl) (by kernel_rfl) (by show (_:Nat) ≤ _;simp [Tryz.f175]) ?_
 have eP:P ts (n + 1) .not i=if (tk ts i).text ∈ [[110,111,116]] then (P ts n .not (i + 1)).bind fun x j=>.ok (.mk 5 (tk ts i).pos 0 [] false [x]) j else (P ts n .sum i).bind fun x j=>if (tk ts j).text ∈ [[61],[60,62],[60],[60,61],[62],[62,61]] then (P ts n .sum (j + 1)).bind fun y m=>.ok (.mk 6 (tk ts j).pos 0 (tk ts j).text false [x,y]) m else .ok x j:=rfl
 rw [eP] at ho ⊢
 clear eP
 obtain ⟨x1,c1,br,hp1⟩:=Ks h hp
 have y2:=x1
 by_cases hm:(tk ts i).text ∈ [[110,111,116]]
 ·rw [if_pos hm] at ho ⊢
  simp only [A6,Bk,Bj,Ch,A7,Bf,Bh,Bd,A5,Bc,Ba,Ce,A0,A1,Bm,B5,ofOpt,ofOptS,Bb,Cp,Bz,Nat.reduceLT,Nat.reduceEqDiff,Aa,Ab,Ac,Ae,Aj,Ak,Tryz.f175,Gu,fp0,Ec,hf1]
  refine WC.mono (L4 c1 hp1 hi hts 1 0 [[110,111,116]] (by decide) (by decide) hm) ?_
  rintro _ ⟨S3,rfl,x3,c3,hi3,hp3⟩
  have y4:=(y2).trans x3
  have br_4:=br.keep x3
  obtain ⟨S5,q5,x5,c5,bt,hp5⟩:=Fs c3 hp3 (tk ts i)
  have y6:=(y4).trans x5
  have br_6:=br_4.keep x5
  have l7:=bt.ld68
  simp only [Bo,A6,Co,Bk,Bl,Bj,Ch,A7,Bf,Br,Bh,Bu,Bd,Bp,De,A5,Bc,Ba,A0,A1,Bm,B5,ofOpt,ofOptS,Cp,Nat.reduceLT,Nat.reduceEqDiff,Aa,Ab,Ac,Ag,Ah,Aj,Ak,G9,Cw,hf3,q5]
  refine Fv [(0,true),(1,true),(2,true),(0,false),(3,true),(4,true),(5,true)] (by kernel_rfl) (by kernel_rfl) ?_
  have ne8:=Gp ho
  simp only [A5,Bc,Ba,A0,A1,Bm,B5,ofOpt,Cp,Nat.reduceLT,Nat.reduceEqDiff,Aa,Ab,Ac,Af,Ag,Ah,Aj,Ak,Am,Dr,Ee,Eb,Du,F4,hf2,l7]
  refine WC.mono (ihnot _ _ c5 hp5 hi3 ne8) ?_
  cases hX9:P ts n .not (i + 1) with
  | out=>exact absurd hX9 ne8
  | bad a e =>
   rintro _ ⟨S9,rfl,x9⟩
   simp only [Cl,Cg,Fp,F7]
   exact ⟨_,rfl,y6.trans x9⟩
  | ok a9 j9 =>
   rw [hX9] at ho; rw [D2] at ho ⊢
   rintro _ ⟨v9,S9,rfl,hr9,x9,c9,hi9⟩
   obtain ⟨xs9,rfl,hl9⟩:=RepE.agg hr9
   have rf9:=RepE.refl hr9
   have hp9:p < S9.next:=Nat.lt_of_lt_of_le hp5 x9.1
   have y10:=(y6).trans x9
   have br_10:=br_6.keep x9
   have bt_10:=bt.keep x9
   have l11:=bt_10.ld68
   have l12:=Yx xs9 hl9
   simp only [A5,Bc,Ba,A0,A1,Bm,B5,ofOpt,Bb,Cp,Bz,Nat.reduceLT,Nat.reduceEqDiff,Aa,Ab,Ac,Aj,Ak,Dr,Kf,Ee,Eb,Du,Ep,D6,Em,G1,hf4,l11,l12]
   refine WC.mono (T9 _ 5 (tk ts i) (.sl 1 0 6 [.agg xs9]) (.inr ⟨_,_,_,rfl⟩)) ?_
   rintro _ ⟨S13,rfl,k13⟩
   have x13:=k13.x p
   have c13:=c9.keep hp9 k13
   have hp13:p < S13.next:=Nat.lt_of_lt_of_le hp9 x13.1
   have y14:=(y10).trans x13
   have br_14:=br_10.keep x13
   have bt_14:=bt_10.keep x13
   obtain ⟨g15,h15,gx,gc⟩:=G4 (S0:=S) c13 br_14 rfl (Nat.le_refl _) y14 (xs:=(exC 5 (tk ts i).pos 0 [] false (.sl 1 0 6 [.agg xs9]))) rfl
   simp only [B1,Bj,Dd,A5,Bc,Ba,A0,A1,Cp,Bi,B0,Bg,Cs,Nat.reduceLT,Nat.reduceEqDiff,Aa,Ab,Ac,Nh,Dr,Fb,Fa,Du,Ep,Ei,g15,h15]
   exact ⟨_,_,rfl,(.mk 5 (tk ts i).pos 0 [] false _ _ (.row _ _ _ _ (.cons _ _ _ _ hr9 .nil))),gx,gc,hi9⟩
 ·rw [if_neg hm] at ho ⊢
  simp only [A6,Bk,Bj,Ch,A7,Bf,Bh,Bd,A5,Bc,Ba,Ce,A0,A1,Bm,B5,ofOpt,ofOptS,Bb,Cp,Bz,Nat.reduceLT,Nat.reduceEqDiff,Aa,Ab,Ac,Ae,Aj,Ak,Tryz.f175,Gu,fp0,Ec,hf1]
  refine WC.mono (Np c1 hp1 hi hts 1 0 [[110,111,116]] (by decide) hm) ?_
  rintro _ ⟨S16,rfl,x16,c16,hi16,hp16⟩
  have y17:=(y2).trans x16
  have br_17:=br.keep x16
  obtain ⟨S18,q18,x18,c18,bt0,hp18⟩:=Fs c16 hp16 Ea
  have y19:=(y17).trans x18
  have br_19:=br_17.keep x18
  have ne20:=Gp ho
  simp only [Bo,A6,Co,Bk,Bl,Bj,Ch,A7,Bf,Br,Bh,Bu,Bd,Bp,C8,A5,Bc,Ba,A0,A1,Bm,B5,ofOpt,ofOptS,Cp,Nat.reduceLT,Nat.reduceEqDiff,Aa,Ab,Ac,Ag,Ah,Aj,Ak,G9,Cw,hf3,q18]
  refine WC.mono (ihsum _ _ c18 hp18 hi16 ne20) ?_
  cases hX21:P ts n .sum i with
  | out=>exact absurd hX21 ne20
  | bad a e =>
   rintro _ ⟨S21,rfl,x21⟩
   simp only [Cl,Cq,Cg]
   exact ⟨_,rfl,y19.trans x21⟩
  | ok a21 j21 =>
   rw [hX21] at ho; rw [D2] at ho ⊢
   rintro _ ⟨v21,S21,rfl,hr21,x21,c21,hi21⟩
   obtain ⟨xs21,rfl,hl21⟩:=RepE.agg hr21
   have rf21:=RepE.refl hr21
   have hp21:p < S21.next:=Nat.lt_of_lt_of_le hp18 x21.1
   have y22:=(y19).trans x21
   have br_22:=br_19.keep x21
   have bt0_22:=bt0.keep x21
   obtain ⟨S23,q23,x23,c23,bx,hp23⟩:=Vm c21 hp21 (xs:=xs21) hl21
   have y24:=(y22).trans x23
   have br_24:=br_22.keep x23
   have bt0_24:=bt0_22.keep x23
   by_cases hm2:(tk ts j21).text ∈ [[61],[60,62],[60],[60,61],[62],[62,61]]
   ·rw [if_pos hm2] at ho ⊢
    simp only [A6,Bk,Bj,Ch,A7,Bf,Br,Bh,Bu,Bd,Bp,A5,Bc,Ba,A0,A1,Bm,B5,ofOpt,ofOptS,Bb,Cp,Bz,Nat.reduceLT,Nat.reduceEqDiff,Aa,Ab,Ac,Aj,Ak,Gu,fp0,row69_6,hf1,q23]
    refine WC.mono (L4 c23 hp23 hi21 hts 1 0 [[61],[60,62],[60],[60,61],[62],[62,61]] (by decide) (by decide) hm2) ?_
    rintro _ ⟨S25,rfl,x25,c25,hi25,hp25⟩
    have y26:=(y24).trans x25
    have br_26:=br_24.keep x25
    have bt0_26:=bt0_24.keep x25
    have bx_26:=bx.keep x25
    obtain ⟨S27,q27,x27,c27,bt,hp27⟩:=Fs c25 hp25 (tk ts j21)
    have y28:=(y26).trans x27
    have br_28:=br_26.keep x27
    have bt0_28:=bt0_26.keep x27
    have bx_28:=bx_26.keep x27
    have l29:=bt.ld68
    have l30:=bx_28.ld30 hl21
    simp only [Bo,A6,Co,Bk,Bl,Bj,Ch,A7,Bf,Br,Bu,Bd,Bp,De,A5,Bc,Ba,A0,A1,ofOpt,ofOptS,Cp,Nat.reduceLT,Nat.reduceEqDiff,Aa,Ab,Ac,Ag,Ah,G9,Cw,q27,l30]
    refine Fv [(0,true),(1,true),(2,true),(3,true),(1,false),(0,false),(4,true),(5,true)] (by kernel_rfl) (by kernel_rfl) ?_
    have ne31:=Gp ho
    simp only [A5,Bc,Ba,A0,A1,Bm,B5,ofOpt,Cp,Nat.reduceLT,Nat.reduceEqDiff,Aa,Ab,Ac,Af,Ag,Ah,Aj,Ak,Am,Dr,Ee,Eb,Du,F4,hf3,l29,l30]
    refine WC.mono (ihsum _ _ c27 hp27 hi25 ne31) ?_
    cases hX32:P ts n .sum (j21 + 1) with
    | out=>exact absurd hX32 ne31
    | bad a e =>
     rintro _ ⟨S32,rfl,x32⟩
     simp only [Cl,Cg,Fp,F7]
     exact ⟨_,rfl,y28.trans x32⟩
    | ok a32 j32 =>
     rw [hX32] at ho; rw [D2] at ho ⊢
     rintro _ ⟨v32,S32,rfl,hr32,x32,c32,hi32⟩
     obtain ⟨xs32,rfl,hl32⟩:=RepE.agg hr32
     have rf32:=RepE.refl hr32
     have hp32:p < S32.next:=Nat.lt_of_lt_of_le hp27 x32.1
     have y33:=(y28).trans x32
     have br_33:=br_28.keep x32
     have bt0_33:=bt0_28.keep x32
     have bx_33:=bx_28.keep x32
     have bt_33:=bt.keep x32
     have l34:=bt_33.ld68
     have l35:=bx_33.ld30 hl21
     simp only [A5,Bc,Ba,A0,A1,Bm,B5,ofOpt,Cp,Nat.reduceLT,Nat.reduceEqDiff,Aa,Ab,Ac,Aj,Ak,Dr,Kf,Eb,Du,Ep,D6,Em,G1,hf5,rf21,l34,l35]
     refine WC.mono (binary_w _ (tk ts j21) xs21 xs32 hl21 hl32) ?_
     rintro _ ⟨S36,rfl,k36⟩
     have x36:=k36.x p
     have c36:=c32.keep hp32 k36
     have hp36:p < S36.next:=Nat.lt_of_lt_of_le hp32 x36.1
     have y37:=(y33).trans x36
     have br_37:=br_33.keep x36
     have bt0_37:=bt0_33.keep x36
     have bx_37:=bx_33.keep x36
     have bt_37:=bt_33.keep x36
     obtain ⟨g38,h38,gx,gc⟩:=G4 (S0:=S) c36 br_37 rfl (Nat.le_refl _) y37 (xs:=(exC 6 (tk ts j21).pos 0 (tk ts j21).text false (.sl 1 0 6 [.agg xs21,.agg xs32]))) rfl
     simp only [B1,Bj,Dd,A5,Bc,Ba,A0,A1,Cp,Bi,B0,Bg,Cs,Nat.reduceLT,Nat.reduceEqDiff,Aa,Ab,Ac,Nh,Dr,Fb,Fa,Du,Ep,Ei,g38,h38]
     exact ⟨_,_,rfl,(.mk 6 (tk ts j21).pos 0 (tk ts j21).text false _ _ (.row _ _ _ _ (.cons _ _ _ _ hr21 (.cons _ _ _ _ hr32 .nil)))),gx,gc,hi32⟩
   ·rw [if_neg hm2] at ho ⊢
    simp only [A6,Bk,Bj,Ch,A7,Bf,Br,Bh,Bu,Bd,Bp,A5,Bc,Ba,A0,A1,Bm,B5,ofOpt,ofOptS,Bb,Cp,Bz,Nat.reduceLT,Nat.reduceEqDiff,Aa,Ab,Ac,Aj,Ak,Gu,fp0,row69_6,hf1,q23]
    refine WC.mono (Np c23 hp23 hi21 hts 1 0 [[61],[60,62],[60],[60,61],[62],[62,61]] (by decide) hm2) ?_
    rintro _ ⟨S39,rfl,x39,c39,hi39,hp39⟩
    have y40:=(y24).trans x39
    have br_40:=br_24.keep x39
    have bt0_40:=bt0_24.keep x39
    have bx_40:=bx.keep x39
    obtain ⟨S41,q41,x41,c41,bt,hp41⟩:=Fs c39 hp39 Ea
    have y42:=(y40).trans x41
    have br_42:=br_40.keep x41
    have bt0_42:=bt0_40.keep x41
    have bx_42:=bx_40.keep x41
    have l43:=bx_42.ld30 hl21
    obtain ⟨g44,h44,gx,gc⟩:=G4 (S0:=S) c41 br_42 rfl (Nat.le_refl _) y42 (xs:=xs21) hl21
    simp only [Bo,A6,Co,Bk,Bl,B1,Bj,Ch,A7,Bf,Br,Bu,Bd,Bp,C8,A5,Bc,Ba,A0,A1,ofOpt,ofOptS,Cp,Bi,B0,Bg,Cs,Nat.reduceLT,Nat.reduceEqDiff,Aa,Ab,Ac,Ag,Ah,G9,Cw,q41,l43,g44,h44]
    exact ⟨_,_,rfl,hr21,gx,gc,hi39⟩
omit hts in
theorem fep0 (t:Tk):C2 Tryz.prog 68 (.ep (El t)) 0=some (.ep (El t)):=by kernel_rfl
omit hts in
theorem fep2 (t:Tk):C2 Tryz.prog 68 (.ep (El t)) 2=some (.ep [Bt t.text,W9 t.num]):=by kernel_rfl
omit hts in
theorem lep0 (S:St) (t:Tk):Cd Tryz.prog S 3 (.ep (El t))=some (.v (.int .i64 (t.kind:Int))):=by simp [Cd,D0,a3,El,Dq]
omit hts in
theorem lep2 (S:St) (t:Tk):Cd Tryz.prog S 9 (.ep [Bt t.text,W9 t.num])=some (.v (.string ⟨⟨t.text⟩⟩)):=by
 have a9:Fo Tryz.prog 9=some false:=by kernel_rfl
 simp [Cd,D0,a9,Bt]
theorem below_w (S:St) (i:Nat) (h:Cur S p k ts i) (hp:p < S.next) (hi:i < ts.length):WC E1 211 [.ptr p 0] S (fun r=>∃ S',r=.ret (.v (.bool (Lm ts i))) S' ∧ En S S'):=by
 refine Dv Tryz.f211 (by kernel_rfl) (by kernel_rfl) (by kernel_rfl) (by show (_:Nat) ≤ _;simp [Tryz.f211]) ?_
 obtain ⟨fn1,hf1⟩:=X3
 have hl:=hts.size
 have e0:=Nn hi
 simp only [A6,Co,Bk,Bj,Ch,A7,Bf,Bd,A5,Bc,Ba,Ce,ofOpt,Bb,Nat.reduceLT,Ac,Ae,Tryz.f211]
 refine Fv [(0,true),(1,true),(2,true),(3,true),(4,true),(5,true),(6,true),(7,true),(8,true),(9,true),(10,true),(11,true),(12,true),(13,true),(14,true),(15,true),(16,true),(17,true),(18,true),(19,true),(20,true),(21,true),(22,true),(23,true),(24,true),(25,true),(26,true),(27,true),(28,true),(29,true),(30,true),(31,true),(32,true),(33,true),(34,true),(35,true),(36,true),(37,true),(38,true),(39,true)] (by kernel_rfl) (by kernel_rfl) ?_
 simp only [A5,Bc,Ba,A0,A1,Bm,B5,ofOpt,Bb,Cp,Bz,Nat.reduceLT,Nat.reduceEqDiff,Aa,Ab,Ac,Af,Ag,Ah,Aj,Ak,fp0,Ec,Dr,Ee,Eb,Du,F4,hf1]
 refine WC.mono (Si S p k ts i h hp hi 1 0 [[45]] (by decide)) ?_
 rintro _ ⟨S2,rfl,hk⟩
 have c2:=h.keep hp hk
 have d0:=c2.ld0
 have d1:=c2.ld1
 unfold Dq at d1
 have w1:IntKind.i64.wrap ((i:Int) + 1)=((i + 1:Nat):Int):=K9 (j:=1) (by omega)
 have w2:IntKind.i64.wrap ((i:Int) + 2)=((i + 2:Nat):Int):=K9 (j:=2) (by omega)
 by_cases hm:ts[i].text ∈ [[45]]
 ·rw [decide_eq_true hm]
  have hm0:ts[i].text=[45]:=by simpa using hm
  have hi1:i + 1 < ts.length:=hts.next hi (by rw [hm0]; decide)
  have q1:=idx63 k ts (i + 1) hi1
  have e1:=Nn hi1
  by_cases hk2:ts[i + 1].kind=2
  ·have n2:(((ts[i + 1].kind:Nat):Int) == 2)=true:=by rw [hk2]; rfl
   have hi2:i + 2 < ts.length:=hts.more (i + 1) hi1 (by rw [hk2]; decide)
   have q2:=idx63 k ts (i + 2) hi2
   have e2:=Nn hi2
   simp only [B1,Bj,A5,Bc,Ba,A0,A1,ofOpt,Bb,Cp,Bs,Bi,B0,Bg,Cs,Dg,B9,Nat.reduceLT,Nat.reduceEqDiff,Aa,Ab,Ac,Af,Ag,Ah,Ai,Al,Am,fp0,Nh,Dr,Ee,Du,Ep,Ei,fc0,fc1,d0,d1,w1,w2,q1,q2,fep0,fep2,lep0,lep2,n2,Cy,fb_strN]
   refine ⟨_,?_,hk⟩
   simp [Lm,e0,e1,e2,hm0,hk2]
  ·have n2:(((ts[i + 1].kind:Nat):Int) == 2)=false:=by rw [beq_eq_false_iff_ne]; omega
   simp only [B1,Bj,A5,Bc,Ba,A0,A1,ofOpt,Bb,Cp,Fj,Bs,Bi,B0,Bg,Cs,Dg,B9,Nat.reduceLT,Nat.reduceEqDiff,Aa,Ab,Ac,Af,Ag,Ah,Ai,Al,Am,Ar,Av,fp0,Nh,Dr,Ii,Ee,Du,Ep,Ei,fc0,fc1,d0,d1,w1,q1,fep0,lep0,n2,Cy]
   refine ⟨_,?_,hk⟩
   simp [Lm,e0,e1,hm0,hk2]
 ·rw [decide_eq_false hm]
  have hm0:¬ ts[i].text=[45]:=by simpa using hm
  simp only [B1,Bj,A5,Bc,Ba,A0,A1,ofOpt,Bb,Cp,Fj,Bs,Bi,B0,Bg,Cs,Nat.reduceLT,Nat.reduceEqDiff,Aa,Ab,Ac,Af,Ag,Ah,Ai,Am,Ar,Av,Nh,Dr,Ii,Ee,Du,Ep,Ei]
  refine ⟨_,?_,hk⟩
  simp [Lm,e0,hm0]
theorem pM:∀ S i,Cur S p k ts i → p < S.next → i < ts.length → Ni ts i ≠ .out → WC E1 212 [.ptr p 0] S (Re p k ts S RepE (Ni ts i)):=fun S i h hp hi _=>number_p S p k ts i h hp hi hts
theorem unary_p (ihunary:Con p k ts 210 (P ts n .unary)) (ihwhen:Con p k ts 213 (P ts n .when)):Con p k ts 210 (P ts (n + 1) .unary):=fun S i h hp hi ho=>by
 obtain ⟨fn1,hf1⟩:=Lj
 obtain ⟨fn2,hf2⟩:=fnOk210
 obtain ⟨fn3,hf3⟩:=fnOk211
 obtain ⟨fn4,hf4⟩:=fnOk212
 obtain ⟨fn5,hf5⟩:=fnOk213
 obtain ⟨fn6,hf6⟩:=X4
 refine Dv Tryz.f210 (by kernel_rfl) (by kernel_rfl) (by kernel_rfl) (by show (_:Nat) ≤ _;simp [Tryz.f210]) ?_
 have eP:P ts (n + 1) .unary i=if (tk ts i).text ∈ [[112,114,101]] then (P ts n .unary (i + 1)).bind fun x j=>.ok (.mk 10 (tk ts i).pos 0 [] false [x]) j else if Lm ts i=true then Ni ts i else if (tk ts i).text ∈ [[45]] then (P ts n .unary (i + 1)).bind fun x j=>.ok (.mk 4 (tk ts i).pos 0 [] false [x]) j else P ts n .when i:=rfl
 rw [eP] at ho ⊢
 clear eP
 obtain ⟨x1,c1,br,hp1⟩:=Ks h hp
 have y2:=x1
 by_cases hm:(tk ts i).text ∈ [[112,114,101]]
 ·rw [if_pos hm] at ho ⊢
  simp only [A6,Bk,Bj,Ch,A7,Bf,Bh,Bd,A5,Bc,Ba,Ce,A0,A1,Bm,B5,ofOpt,ofOptS,Bb,Cp,Bz,Nat.reduceLT,Nat.reduceEqDiff,Aa,Ab,Ac,Ae,Aj,Ak,Tryz.f210,Gu,fp0,Ec,hf1]
  refine WC.mono (L4 c1 hp1 hi hts 1 0 [[112,114,101]] (by decide) (by decide) hm) ?_
  rintro _ ⟨S3,rfl,x3,c3,hi3,hp3⟩
  have y4:=(y2).trans x3
  have br_4:=br.keep x3
  obtain ⟨S5,q5,x5,c5,bt,hp5⟩:=Fs c3 hp3 (tk ts i)
  have y6:=(y4).trans x5
  have br_6:=br_4.keep x5
  have l7:=bt.ld68
  simp only [Bo,A6,Co,Bk,Bl,Bj,Ch,A7,Bf,Br,Bh,Bu,Bd,Bp,De,A5,Bc,Ba,A0,A1,Bm,B5,ofOpt,ofOptS,Cp,Nat.reduceLT,Nat.reduceEqDiff,Aa,Ab,Ac,Ag,Ah,Aj,Ak,G9,Cw,hf3,q5]
  refine Fv [(0,true),(1,true),(2,true),(0,false),(3,true),(4,true),(5,true)] (by kernel_rfl) (by kernel_rfl) ?_
  have ne8:=Gp ho
  simp only [A5,Bc,Ba,A0,A1,Bm,B5,ofOpt,Cp,Nat.reduceLT,Nat.reduceEqDiff,Aa,Ab,Ac,Af,Ag,Ah,Aj,Ak,Am,Dr,Ee,Eb,Du,F4,hf2,l7]
  refine WC.mono (ihunary _ _ c5 hp5 hi3 ne8) ?_
  cases hX9:P ts n .unary (i + 1) with
  | out=>exact absurd hX9 ne8
  | bad a e =>
   rintro _ ⟨S9,rfl,x9⟩
   simp only [Cl,Cg,Fp,F7]
   exact ⟨_,rfl,y6.trans x9⟩
  | ok a9 j9 =>
   rw [hX9] at ho; rw [D2] at ho ⊢
   rintro _ ⟨v9,S9,rfl,hr9,x9,c9,hi9⟩
   obtain ⟨xs9,rfl,hl9⟩:=RepE.agg hr9
   have rf9:=RepE.refl hr9
   have hp9:p < S9.next:=Nat.lt_of_lt_of_le hp5 x9.1
   have y10:=(y6).trans x9
   have br_10:=br_6.keep x9
   have bt_10:=bt.keep x9
   have l11:=bt_10.ld68
   have l12:=Yx xs9 hl9
   simp only [A5,Bc,Ba,A0,A1,Bm,B5,ofOpt,Bb,Cp,Bz,Nat.reduceLT,Nat.reduceEqDiff,Aa,Ab,Ac,Aj,Ak,Dr,Kf,Ee,Eb,Du,Ep,D6,Em,G1,hf6,l11,l12]
   refine WC.mono (T9 _ 10 (tk ts i) (.sl 1 0 6 [.agg xs9]) (.inr ⟨_,_,_,rfl⟩)) ?_
   rintro _ ⟨S13,rfl,k13⟩
   have x13:=k13.x p
   have c13:=c9.keep hp9 k13
   have hp13:p < S13.next:=Nat.lt_of_lt_of_le hp9 x13.1
   have y14:=(y10).trans x13
   have br_14:=br_10.keep x13
   have bt_14:=bt_10.keep x13
   obtain ⟨g15,h15,gx,gc⟩:=G4 (S0:=S) c13 br_14 rfl (Nat.le_refl _) y14 (xs:=(exC 10 (tk ts i).pos 0 [] false (.sl 1 0 6 [.agg xs9]))) rfl
   simp only [B1,Bj,Dd,A5,Bc,Ba,A0,A1,Cp,Bi,B0,Bg,Cs,Nat.reduceLT,Nat.reduceEqDiff,Aa,Ab,Ac,Nh,Dr,Fb,Fa,Du,Ep,Ei,g15,h15]
   exact ⟨_,_,rfl,(.mk 10 (tk ts i).pos 0 [] false _ _ (.row _ _ _ _ (.cons _ _ _ _ hr9 .nil))),gx,gc,hi9⟩
 ·rw [if_neg hm] at ho ⊢
  simp only [A6,Bk,Bj,Ch,A7,Bf,Bh,Bd,A5,Bc,Ba,Ce,A0,A1,Bm,B5,ofOpt,ofOptS,Bb,Cp,Bz,Nat.reduceLT,Nat.reduceEqDiff,Aa,Ab,Ac,Ae,Aj,Ak,Tryz.f210,Gu,fp0,Ec,hf1]
  refine WC.mono (Np c1 hp1 hi hts 1 0 [[112,114,101]] (by decide) hm) ?_
  rintro _ ⟨S16,rfl,x16,c16,hi16,hp16⟩
  have y17:=(y2).trans x16
  have br_17:=br.keep x16
  obtain ⟨S18,q18,x18,c18,bt0,hp18⟩:=Fs c16 hp16 Ea
  have y19:=(y17).trans x18
  have br_19:=br_17.keep x18
  simp only [Bo,A6,Co,Bk,Bl,Bj,Ch,A7,Bf,Br,Bh,Bu,Bd,Bp,C8,A5,Bc,Ba,A0,A1,Bm,B5,ofOpt,ofOptS,Cp,Nat.reduceLT,Nat.reduceEqDiff,Aa,Ab,Ac,Ag,Ah,Aj,Ak,G9,Cw,hf3,q18]
  refine WC.mono (below_w hts _ i c18 hp18 hi16) ?_
  rintro _ ⟨S20,rfl,k20⟩
  have x20:=k20.x p
  have c20:=c18.keep hp18 k20
  have hp20:p < S20.next:=Nat.lt_of_lt_of_le hp18 x20.1
  have y21:=(y19).trans x20
  have br_21:=br_19.keep x20
  have bt0_21:=bt0.keep x20
  by_cases hb:Lm ts i=true
  ·rw [if_pos hb] at ho ⊢
   rw [hb]
   simp only [Bo,A6,Bk,Bl,Bj,Ch,A7,Bf,Bh,Bd,Bp,De,A5,Bc,Ba,A0,A1,Bm,B5,ofOpt,Bb,Cp,Bz,Nat.reduceLT,Nat.reduceEqDiff,Aa,Ab,Ac,Aj,Ak,fp0,Ec,hf1,hf4]
   refine WC.mono (pM hts _ _ c20 hp20 hi16 ho) ?_
   cases hX22:Ni ts i with
   | out=>exact absurd hX22 ho
   | bad a e =>
    rintro _ ⟨S22,rfl,x22⟩
    simp only [Cl,Cq,Cg]
    exact ⟨_,rfl,y21.trans x22⟩
   | ok a22 j22 =>
    rintro _ ⟨v22,S22,rfl,hr22,x22,c22,hi22⟩
    obtain ⟨xs22,rfl,hl22⟩:=RepE.agg hr22
    have hp22:p < S22.next:=Nat.lt_of_lt_of_le hp20 x22.1
    have y23:=(y21).trans x22
    have br_23:=br_21.keep x22
    have bt0_23:=bt0_21.keep x22
    obtain ⟨g24,h24,gx,gc⟩:=G4 (S0:=S) c22 br_23 rfl (Nat.le_refl _) y23 (xs:=xs22) hl22
    simp only [B1,Bj,Dd,Ch,A7,Br,Bu,Bd,Bp,A5,Bc,Ba,A0,A1,Cp,Bi,B0,Bg,Cs,Nat.reduceLT,Nat.reduceEqDiff,Aa,Ab,Ac,g24,h24]
    exact ⟨_,_,rfl,hr22,gx,gc,hi22⟩
  ·rw [if_neg hb] at ho ⊢
   have hb2:Lm ts i=false:=by simpa using hb
   rw [hb2]
   by_cases hm2:(tk ts i).text ∈ [[45]]
   ·rw [if_pos hm2] at ho ⊢
    simp only [Bo,A6,Bk,Bl,Bj,Ch,A7,Bf,Bh,Bd,Bp,C8,A5,Bc,Ba,A0,A1,Bm,B5,ofOpt,Bb,Cp,Bz,Nat.reduceLT,Nat.reduceEqDiff,Aa,Ab,Ac,Aj,Ak,fp0,Ec,hf1,hf4]
    refine WC.mono (L4 c20 hp20 hi16 hts 1 0 [[45]] (by decide) (by decide) hm2) ?_
    rintro _ ⟨S25,rfl,x25,c25,hi25,hp25⟩
    have y26:=(y21).trans x25
    have br_26:=br_21.keep x25
    have bt0_26:=bt0_21.keep x25
    obtain ⟨S27,q27,x27,c27,bt,hp27⟩:=Fs c25 hp25 (tk ts i)
    have y28:=(y26).trans x27
    have br_28:=br_26.keep x27
    have bt0_28:=bt0_26.keep x27
    have l29:=bt.ld68
    simp only [Bo,A6,Co,Bk,Bl,Bj,Ch,A7,Bf,Br,Bh,Bu,Bd,Bp,De,A5,Bc,Ba,A0,A1,Bm,B5,ofOpt,ofOptS,Cp,Nat.reduceLT,Nat.reduceEqDiff,Aa,Ab,Ac,Ag,Ah,Aj,Ak,G9,Cw,hf5,q27]
    refine Fv [(0,true),(1,true),(2,true),(0,false),(3,true),(4,true),(5,true)] (by kernel_rfl) (by kernel_rfl) ?_
    have ne30:=Gp ho
    simp only [A5,Bc,Ba,A0,A1,Bm,B5,ofOpt,Cp,Nat.reduceLT,Nat.reduceEqDiff,Aa,Ab,Ac,Af,Ag,Ah,Aj,Ak,Am,Dr,Ee,Eb,Du,F4,hf2,l29]
    refine WC.mono (ihunary _ _ c27 hp27 hi25 ne30) ?_
    cases hX31:P ts n .unary (i + 1) with
    | out=>exact absurd hX31 ne30
    | bad a e =>
     rintro _ ⟨S31,rfl,x31⟩
     simp only [Cl,Cg,Fp,F7]
     exact ⟨_,rfl,y28.trans x31⟩
    | ok a31 j31 =>
     rw [hX31] at ho; rw [D2] at ho ⊢
     rintro _ ⟨v31,S31,rfl,hr31,x31,c31,hi31⟩
     obtain ⟨xs31,rfl,hl31⟩:=RepE.agg hr31
     have rf31:=RepE.refl hr31
     have hp31:p < S31.next:=Nat.lt_of_lt_of_le hp27 x31.1
     have y32:=(y28).trans x31
     have br_32:=br_28.keep x31
     have bt0_32:=bt0_28.keep x31
     have bt_32:=bt.keep x31
     have l33:=bt_32.ld68
     have l34:=Yx xs31 hl31
     simp only [A5,Bc,Ba,A0,A1,Bm,B5,ofOpt,Bb,Cp,Bz,Nat.reduceLT,Nat.reduceEqDiff,Aa,Ab,Ac,Aj,Ak,Dr,Kf,Ee,Eb,Du,Ep,D6,Em,G1,hf6,l33,l34]
     refine WC.mono (T9 _ 4 (tk ts i) (.sl 1 0 6 [.agg xs31]) (.inr ⟨_,_,_,rfl⟩)) ?_
     rintro _ ⟨S35,rfl,k35⟩
     have x35:=k35.x p
     have c35:=c31.keep hp31 k35
     have hp35:p < S35.next:=Nat.lt_of_lt_of_le hp31 x35.1
     have y36:=(y32).trans x35
     have br_36:=br_32.keep x35
     have bt0_36:=bt0_32.keep x35
     have bt_36:=bt_32.keep x35
     obtain ⟨g37,h37,gx,gc⟩:=G4 (S0:=S) c35 br_36 rfl (Nat.le_refl _) y36 (xs:=(exC 4 (tk ts i).pos 0 [] false (.sl 1 0 6 [.agg xs31]))) rfl
     simp only [B1,Bj,Dd,A5,Bc,Ba,A0,A1,Cp,Bi,B0,Bg,Cs,Nat.reduceLT,Nat.reduceEqDiff,Aa,Ab,Ac,Nh,Dr,Fb,Fa,Du,Ep,Ei,g37,h37]
     exact ⟨_,_,rfl,(.mk 4 (tk ts i).pos 0 [] false _ _ (.row _ _ _ _ (.cons _ _ _ _ hr31 .nil))),gx,gc,hi31⟩
   ·rw [if_neg hm2] at ho ⊢
    simp only [Bo,A6,Bk,Bl,Bj,Ch,A7,Bf,Bh,Bd,Bp,C8,A5,Bc,Ba,A0,A1,Bm,B5,ofOpt,Bb,Cp,Bz,Nat.reduceLT,Nat.reduceEqDiff,Aa,Ab,Ac,Aj,Ak,fp0,Ec,hf1,hf4]
    refine WC.mono (Np c20 hp20 hi16 hts 1 0 [[45]] (by decide) hm2) ?_
    rintro _ ⟨S38,rfl,x38,c38,hi38,hp38⟩
    have y39:=(y21).trans x38
    have br_39:=br_21.keep x38
    have bt0_39:=bt0_21.keep x38
    obtain ⟨S40,q40,x40,c40,bt,hp40⟩:=Fs c38 hp38 Ea
    have y41:=(y39).trans x40
    have br_41:=br_39.keep x40
    have bt0_41:=bt0_39.keep x40
    simp only [Bo,A6,Co,Bk,Bl,Bj,Ch,A7,Bf,Br,Bh,Bu,Bd,Bp,C8,A5,Bc,Ba,A0,A1,Bm,B5,ofOpt,ofOptS,Cp,Nat.reduceLT,Nat.reduceEqDiff,Aa,Ab,Ac,Ag,Ah,Aj,Ak,G9,Cw,hf5,q40]
    refine WC.mono (ihwhen _ _ c40 hp40 hi38 ho) ?_
    cases hX42:P ts n .when i with
    | out=>exact absurd hX42 ho
    | bad a e =>
     rintro _ ⟨S42,rfl,x42⟩
     simp only [Cl,Cq,Cg]
     exact ⟨_,rfl,y41.trans x42⟩
    | ok a42 j42 =>
     rintro _ ⟨v42,S42,rfl,hr42,x42,c42,hi42⟩
     obtain ⟨xs42,rfl,hl42⟩:=RepE.agg hr42
     have hp42:p < S42.next:=Nat.lt_of_lt_of_le hp40 x42.1
     have y43:=(y41).trans x42
     have br_43:=br_41.keep x42
     have bt0_43:=bt0_41.keep x42
     have bt_43:=bt.keep x42
     obtain ⟨g44,h44,gx,gc⟩:=G4 (S0:=S) c42 br_43 rfl (Nat.le_refl _) y43 (xs:=xs42) hl42
     simp only [B1,Bj,Ch,A7,Br,Bu,Bd,Bp,A5,Bc,Ba,A0,A1,Cp,Bi,B0,Bg,Cs,Nat.reduceLT,Nat.reduceEqDiff,Aa,Ab,Ac,g44,h44]
     exact ⟨_,_,rfl,hr42,gx,gc,hi42⟩
end
end Go.Ax
