/- Pm -/
import Derived.Test.YtjgknelmjdallaaGreatDoorTdG18
import Derived.Test.YtjgknelmjdallaaGreatDoorTdG11
import Derived.Lib.Join
import Derived.Lib.ItoaLen
set_option linter.unusedVariables false
set_option linter.unusedSimpArgs false
set_option maxHeartbeats 16000000
noncomputable section
namespace Go.Ax
open Go.RowKit Go.Proofs
set_option maxRecDepth 100000
theorem fnOk90:∃ fn,E1.F 90=some fn:=Option.isSome_iff_exists.1 (by kernel_rfl)
def Pa (ts:List Tk) (n j:Nat):PR (List PD):=if (tk ts j).text ∈ [[118,97,114]] then (Gs ts (j + 1)).bind fun x m=>Ky ts n [x] m else .ok [] j
def Lu (ts:List Tk) (n i:Nat):PR PN:=(Ef ts [[110,111,100,101]] i).bind fun _ j=>(Gz ts 1 j).bind fun t j=>(K3 ts (I6 ts) n j).bind fun ins j=>(Ef ts [[114,101,116,117,114,110,115]] j).bind fun _ j=>(K3 ts (I6 ts) n j).bind fun outs j=>(Pa ts n j).bind fun vars j=>(Ef ts [[108,101,116]] j).bind fun _ j=>(Rm ts n n [] j).bind fun qs j=>(Ef ts [[116,101,108]] j).bind fun _ j=>.ok ⟨t.text,t.pos,ins,outs,vars,qs⟩ j
def Gr (v:AV) (nd:PN):Prop:=∃ a b c d es,v=.agg (Fg nd.name nd.pos a b c d) ∧ F2 6 Fq a nd.ins ∧ F2 6 Fq b nd.outs ∧ F2 6 Fq c nd.vars ∧ ((d=.nils ∧ es=[]) ∨ ∃ tok,d=.sl tok 0 8 es) ∧ EqRows es nd.eqs
theorem b49 (s:List UInt8) (a:Nat):Gc Tryz.prog 49 [(0,.v (.string ⟨⟨s⟩⟩)),(1,.v (.int .i64 (a:Int)))]=some (.agg (Fg s a .nils .nils .nils .nils)):=by kernel_rfl
theorem aU (b:Nat):C2 Tryz.prog 49 (.ptr b 0) 2=some (.ptr b 2):=by kernel_rfl
theorem aT (b:Nat):C2 Tryz.prog 49 (.ptr b 0) 3=some (.ptr b 3):=by kernel_rfl
theorem qZ (b:Nat):C2 Tryz.prog 49 (.ptr b 0) 4=some (.ptr b 4):=by kernel_rfl
theorem s46:Fu Tryz.prog 46=some 1:=by kernel_rfl
theorem R9 {v:AV} {l:List PD} (h:F2 6 Fq v l):v.noTup=true ∧ v.cells=[v]:=by
 rcases h with ⟨rfl,_⟩ | ⟨tok,off,rfl⟩ <;> exact ⟨rfl,rfl⟩
section
variable {S:St} {id:Nat} {nm:List UInt8} {pos:Nat} {a b c d v:AV} {l:List PD} (h:S.mem.get id=some (.box (Fg nm pos a b c d))) (hv:F2 6 Fq v l)
include h hv
theorem st49_2:Dt Tryz.prog S 46 (.ptr id 2) v=some (S.put id (Fg nm pos v b c d)):=by
 simp [Dt,h,s46,(R9 hv).1,(R9 hv).2,St.put,Fg]
theorem st49_3:Dt Tryz.prog S 46 (.ptr id 3) v=some (S.put id (Fg nm pos a v c d)):=by
 simp [Dt,h,s46,(R9 hv).1,(R9 hv).2,St.put,Fg]
theorem st49_4:Dt Tryz.prog S 46 (.ptr id 4) v=some (S.put id (Fg nm pos a b v d)):=by
 simp [Dt,h,s46,(R9 hv).1,(R9 hv).2,St.put,Fg]
end
section
variable {p k:Nat} {ts:List Tk} (hts:TokOk ts)
include hts
theorem node_p (h2p:2 ≤ p) (n:Nat) (hn:n ≤ 1000000) (S:St) (i:Nat) (h:Cur S p k ts i) (hp:p < S.next) (hi:i < ts.length) (ho:Lu ts n i ≠ .out):WC E1 90 [.ptr p 0] S (Re p k ts S Gr (Lu ts n i)):=by
 have eP:Lu ts n i=(Ef ts [[110,111,100,101]] i).bind fun _ j=>(Gz ts 1 j).bind fun t j=>(K3 ts (I6 ts) n j).bind fun ins j=>(Ef ts [[114,101,116,117,114,110,115]] j).bind fun _ j=>(K3 ts (I6 ts) n j).bind fun outs j=>(Pa ts n j).bind fun vars j=>(Ef ts [[108,101,116]] j).bind fun _ j=>(Rm ts n n [] j).bind fun qs j=>(Ef ts [[116,101,108]] j).bind fun _ j=>.ok ⟨t.text,t.pos,ins,outs,vars,qs⟩ j:=rfl
 rw [eP] at ho ⊢
 clear eP
 refine Dv Tryz.f90 (by kernel_rfl) (by kernel_rfl) (by kernel_rfl) (by show (_:Nat) ≤ _;simp [Tryz.f90]) ?_
 obtain ⟨fn1,hf1⟩:=Qa
 obtain ⟨fn2,hf2⟩:=R2
 obtain ⟨fn3,hf3⟩:=fnOk125
 obtain ⟨fn4,hf4⟩:=Lj
 obtain ⟨fn5,hf5⟩:=fnOk127
 obtain ⟨fn6,hf6⟩:=X3
 obtain ⟨x1,c1,br,hp1⟩:=openB Me h hp
 have y2:=x1
 simp only [A6,Bk,A4,Be,A7,Bf,Bh,Bd,A5,Bc,Ba,Ce,A0,A1,Bm,B5,ofOpt,ofOptS,Bb,Cp,Bz,Nat.reduceLT,Nat.reduceEqDiff,Aa,Ab,Ac,Ae,Aj,Ak,Tryz.f90,fp0,Ec,hf1,sM]
 refine WC.mono (Jc c1 hp1 hi hts 1 0 [[110,111,100,101]] (by decide) (by decide)) ?_
 cases hX3:Ef ts [[110,111,100,101]] i with
 | out=>exact absurd hX3 (G3 _ _ _)
 | bad a e =>
  rintro _ ⟨S3,rfl,x3⟩
  simp only [Cl,Cq,Cg]
  exact ⟨_,rfl,y2.trans x3⟩
 | ok a3 j3 =>
  rw [hX3] at ho; rw [D2] at ho ⊢
  rintro _ ⟨_,S3,rfl,rfl,x3,c3,hi3⟩
  have hp3:p < S3.next:=Nat.lt_of_lt_of_le hp1 x3.1
  have y4:=(y2).trans x3
  have br_4:=br.keep x3
  simp only [A6,Bk,A4,Be,A7,Bf,Bh,Bd,Bp,A5,Bc,Ba,A0,A1,Bm,B5,ofOpt,Bb,Cp,Nat.reduceLT,Nat.reduceEqDiff,Aa,Ab,Ac,Aj,Ak,fp0,hf2]
  refine WC.mono (Wj c3 hp3 hi3 hts 1 (by decide)) ?_
  cases hX5:Gz ts 1 j3 with
  | out=>exact absurd hX5 (Nj _ _ _)
  | bad a e =>
   rintro _ ⟨S5,rfl,x5⟩
   simp only [Cl,Cq,Cg]
   exact ⟨_,rfl,y4.trans x5⟩
  | ok a5 j5 =>
   rw [hX5] at ho; rw [D2] at ho ⊢
   rintro _ ⟨_,S5,rfl,rfl,x5,c5,hi5⟩
   have hp5:p < S5.next:=Nat.lt_of_lt_of_le hp3 x5.1
   have y6:=(y4).trans x5
   have br_6:=br_4.keep x5
   obtain ⟨S7,q7,x7,c7,bt,hp7⟩:=Fs c5 hp5 a5
   have y8:=(y6).trans x7
   have br_8:=br_6.keep x7
   have lp:=bt.pos
   have lt:=bt.text
   obtain ⟨S9,q9,x9,c9,bd,hp9⟩:=boxG2 N4 Me rfl c7 hp7 (xs:=Fg a5.text a5.pos .nils .nils .nils .nils) rfl
   have y10:=(y8).trans x9
   have br_10:=br_8.keep x9
   have bt_10:=bt.keep x9
   have hne:S7.next ≠ S.next:=by have:=br_8.lt; omega
   have ne11:=Gp ho
   simp only [A6,Bk,A4,Be,A7,Bf,Br,Bh,Bu,Bd,Bp,A5,Bc,Ba,A0,A1,Bm,B5,ofOpt,ofOptS,Cp,Bz,Nat.reduceLT,Nat.reduceEqDiff,Aa,Ab,Ac,Aj,Ak,G9,hf3,sM,q7,fd1,fa2,lp,lt,b49,q9]
   refine WC.mono (jU hts h2p 126 (I6 ts) (eF ts) fnOk126 (decl_p hts) n hn _ _ c9 hp9 hi5 ne11) ?_
   cases hX12:K3 ts (I6 ts) n j5 with
   | out=>exact absurd hX12 ne11
   | bad a e =>
    rintro _ ⟨S12,rfl,x12⟩
    simp only [Cl,Cq,Cg]
    exact ⟨_,rfl,y10.trans x12⟩
   | ok l12 j12 =>
    rw [hX12] at ho; rw [D2] at ho ⊢
    rintro _ ⟨va,S12,rfl,hva,x12,c12,hi12⟩
    have hp12:p < S12.next:=Nat.lt_of_lt_of_le hp9 x12.1
    have y13:=(y10).trans x12
    have br_13:=br_10.keep x12
    have bd_13:=bd.keep x12
    have st701:=st49_2 bd_13.get hva
    obtain ⟨px701,pc701,pb701,pr701⟩:=Zj (ys:=Fg a5.text a5.pos va .nils .nils .nils) y13 y8.1 bd_13 c12 br_13 hne
    simp only [A6,Bk,A4,Be,A7,Bf,Br,Bh,Bu,Bd,Bp,A5,Bc,Ba,A0,A1,Bm,B5,ofOpt,Bb,Cp,Bz,Nat.reduceLT,Nat.reduceEqDiff,Aa,Ab,Ac,Aj,Ak,fp0,Ec,hf1,aU,st701]
    refine WC.mono (Jc pc701 hp12 hi12 hts 1 0 [[114,101,116,117,114,110,115]] (by decide) (by decide)) ?_
    cases hX14:Ef ts [[114,101,116,117,114,110,115]] j12 with
    | out=>exact absurd hX14 (G3 _ _ _)
    | bad a e =>
     rintro _ ⟨S14,rfl,x14⟩
     simp only [Cl,Cq,Cg]
     exact ⟨_,rfl,px701.trans x14⟩
    | ok a14 j14 =>
     rw [hX14] at ho; rw [D2] at ho ⊢
     rintro _ ⟨_,S14,rfl,rfl,x14,c14,hi14⟩
     have hp14:p < S14.next:=Nat.lt_of_lt_of_le hp12 x14.1
     have y15:=(px701).trans x14
     have bd_15:=pb701.keep x14
     have br_15:=pr701.keep x14
     have ne16:=Gp ho
     simp only [A6,Bk,A4,Be,A7,Bf,Bh,Bd,Bp,A5,Bc,Ba,A0,A1,Bm,B5,ofOpt,Nat.reduceLT,Nat.reduceEqDiff,Aa,Ab,Ac,Aj,Ak,hf3]
     refine WC.mono (jU hts h2p 126 (I6 ts) (eF ts) fnOk126 (decl_p hts) n hn _ _ c14 hp14 hi14 ne16) ?_
     cases hX17:K3 ts (I6 ts) n j14 with
     | out=>exact absurd hX17 ne16
     | bad a e =>
      rintro _ ⟨S17,rfl,x17⟩
      simp only [Cl,Cq,Cg]
      exact ⟨_,rfl,y15.trans x17⟩
     | ok l17 j17 =>
      rw [hX17] at ho; rw [D2] at ho ⊢
      rintro _ ⟨vb,S17,rfl,hvb,x17,c17,hi17⟩
      have hp17:p < S17.next:=Nat.lt_of_lt_of_le hp14 x17.1
      have y18:=(y15).trans x17
      have bd_18:=bd_15.keep x17
      have br_18:=br_15.keep x17
      have st702:=st49_3 bd_18.get hvb
      obtain ⟨px702,pc702,pb702,pr702⟩:=Zj (ys:=Fg a5.text a5.pos va vb .nils .nils) y18 y8.1 bd_18 c17 br_18 hne
      have eV:Pa ts n j17=if (tk ts j17).text ∈ [[118,97,114]] then (Gs ts (j17 + 1)).bind fun x m=>Ky ts n [x] m else .ok [] j17:=rfl
      rw [eV] at ho ⊢
      clear eV
      by_cases hm:(tk ts j17).text ∈ [[118,97,114]]
      ·rw [if_pos hm] at ho ⊢
       simp only [A6,Bk,A4,Be,A7,Bf,Br,Bh,Bu,Bd,Bp,A5,Bc,Ba,A0,A1,Bm,B5,ofOpt,Bb,Cp,Bz,Nat.reduceLT,Nat.reduceEqDiff,Aa,Ab,Ac,Aj,Ak,fp0,Ec,hf4,aT,st702]
       refine WC.mono (L4 pc702 hp17 hi17 hts 1 0 [[118,97,114]] (by decide) (by decide) hm) ?_
       rintro _ ⟨S19,rfl,x19,c19,hi19,hp19⟩
       have y20:=(px702).trans x19
       have bd_20:=pb702.keep x19
       have br_20:=pr702.keep x19
       obtain ⟨S21,q21,x21,c21,bv,hp21⟩:=Fs c19 hp19 (tk ts j17)
       have y22:=(y20).trans x21
       have bd_22:=bd_20.keep x21
       have br_22:=br_20.keep x21
       have ne23:=Gp ho
       simp only [Bo,A6,Bk,Bl,A4,Be,A7,Bf,Br,Bh,Bu,Bd,Bp,De,A5,Bc,Ba,A0,A1,Bm,B5,ofOpt,ofOptS,Bb,Cp,Bz,Nat.reduceLT,Nat.reduceEqDiff,Aa,Ab,Ac,Ag,Ah,Aj,Ak,G9,fp0,Cw,Ec,hf1,hf5,q21]
       refine WC.mono (vars_p hts h2p n hn _ _ c21 hp21 hi19 ne23) ?_
       cases hX24:(Gs ts (j17 + 1)).bind fun x m=>Ky ts n [x] m with
       | out=>exact absurd hX24 ne23
       | bad a e =>
        rintro _ ⟨S24,rfl,x24⟩
        simp only [Cl,Cq,Cg]
        exact ⟨_,rfl,y22.trans x24⟩
       | ok l24 j24 =>
        rw [hX24] at ho; rw [D2] at ho ⊢
        rintro _ ⟨vc,S24,rfl,hvc,x24,c24,hi24⟩
        have hp24:p < S24.next:=Nat.lt_of_lt_of_le hp21 x24.1
        have y25:=(y22).trans x24
        have bd_25:=bd_22.keep x24
        have br_25:=br_22.keep x24
        have st703:=st49_4 bd_25.get hvc
        obtain ⟨px703,pc703,pb703,pr703⟩:=Zj (ys:=Fg a5.text a5.pos va vb vc .nils) y25 y8.1 bd_25 c24 br_25 hne
        simp only [A6,Bk,A4,Be,A7,Bf,Br,Bh,Bu,Bd,Bp,A5,Bc,Ba,A0,A1,Bm,B5,ofOpt,Bb,Cp,Bz,Nat.reduceLT,Nat.reduceEqDiff,Aa,Ab,Ac,Aj,Ak,fp0,Ec,hf1,qZ,st703]
        refine WC.mono (Jc pc703 hp24 hi24 hts 1 0 [[108,101,116]] (by decide) (by decide)) ?_
        cases hX26:Ef ts [[108,101,116]] j24 with
        | out=>exact absurd hX26 (G3 _ _ _)
        | bad a e =>
         rintro _ ⟨S26,rfl,x26⟩
         simp only [Cl,Cq,Cg]
         exact ⟨_,rfl,px703.trans x26⟩
        | ok a26 j26 =>
         rw [hX26] at ho; rw [D2] at ho ⊢
         rintro _ ⟨_,S26,rfl,rfl,x26,c26,hi26⟩
         have hp26:p < S26.next:=Nat.lt_of_lt_of_le hp24 x26.1
         have y27:=(px703).trans x26
         have bd_27:=pb703.keep x26
         have br_27:=pr703.keep x26
         simp only [Bk,Bq,Dx,A4,Be,Bd,Bp,Nat.reduceLT,Ac]
         have neE:=Gp ho
         refine WX.mono (rD hts h2p n hn S hp S.next S7.next (Nat.le_refl _) y8.1 hne a5.text a5.pos va vb vc n [] j26 _ _ .nils [] neE (by simp; omega) (by simp [T.get_set]) (by simp [T.get_set]) (by simp [T.get_set]) c26 hp26 hi26 br_27 bd_27 (.inl ⟨rfl,rfl⟩) .nil y27) ?_
         rintro _ (⟨t9,S9,d9,es9,l9,i9,rfl,g0,g2,g4,hr9,hb9,hq9,hf9,x9,c9,hi9,hp9,e9⟩ | ⟨t9,S9,a9,e9,rfl,x9,q9⟩)
         ·rw [e9] at ho ⊢
          rw [D2] at ho ⊢
          simp only [A6,Bk,A4,C7,C5,A7,Bf,Bh,Bd,A5,Bc,Ba,A0,Bm,B5,ofOpt,Bb,Cp,Bz,Nat.reduceLT,Nat.reduceEqDiff,Aa,Ab,Ac,Aj,Ak,fp0,Ec,hf1,g0]
          refine WC.mono (Jc c9 hp9 hi9 hts 1 0 [[116,101,108]] (by decide) (by decide)) ?_
          cases hX29:Ef ts [[116,101,108]] i9 with
          | out=>exact absurd hX29 (G3 _ _ _)
          | bad a e =>
           rintro _ ⟨S29,rfl,x29⟩
           simp only [Cl,Cq,Cg]
           exact ⟨_,rfl,x9.trans x29⟩
          | ok a29 j29 =>
           rw [hX29] at ho; rw [D2] at ho ⊢
           rintro _ ⟨_,S29,rfl,rfl,x29,c29,hi29⟩
           have hp29:p < S29.next:=Nat.lt_of_lt_of_le hp9 x29.1
           have y30:=(x9).trans x29
           have br_30:=hr9.keep x29
           have bd_30:=hb9.keep x29
           have lz:=ldG Vp N4 bd_30.get rfl
           obtain ⟨g31,h31,gx,gc⟩:=dJ Vp N4 (S0:=S) c29 br_30 rfl (Nat.le_refl _) y30 (xs:=Fg a5.text a5.pos va vb vc d9) rfl
           simp only [A6,Bk,B1,A4,Be,A7,Bf,Br,Bu,Bd,Bp,A5,Bc,Ba,A0,ofOpt,Cp,Bi,B0,Bg,Cs,Nat.reduceLT,Nat.reduceEqDiff,Aa,Ab,Ac,g2,g4,lz,g31,h31]
           exact ⟨_,_,rfl,⟨va,vb,vc,d9,es9,rfl,hva,hvb,hvc,hq9.imp id (fun ⟨tok,h,_⟩=>⟨tok,h⟩),hf9⟩,gx,gc,hi29⟩
         ·rw [q9] at ho ⊢
          simp only [Cl,Dc,Cg]
          exact ⟨_,rfl,x9⟩
      ·rw [if_neg hm] at ho ⊢
       rw [D2] at ho ⊢
       simp only [A6,Bk,A4,Be,A7,Bf,Br,Bh,Bu,Bd,Bp,A5,Bc,Ba,A0,A1,Bm,B5,ofOpt,Bb,Cp,Bz,Nat.reduceLT,Nat.reduceEqDiff,Aa,Ab,Ac,Aj,Ak,fp0,Ec,hf4,aT,st702]
       refine WC.mono (Np pc702 hp17 hi17 hts 1 0 [[118,97,114]] (by decide) hm) ?_
       rintro _ ⟨S32,rfl,x32,c32,hi32,hp32⟩
       have y33:=(px702).trans x32
       have bd_33:=pb702.keep x32
       have br_33:=pr702.keep x32
       obtain ⟨S34,q34,x34,c34,bv,hp34⟩:=Fs c32 hp32 Ea
       have y35:=(y33).trans x34
       have bd_35:=bd_33.keep x34
       have br_35:=br_33.keep x34
       simp only [Bo,A6,Bk,Bl,A4,Be,A7,Bf,Br,Bh,Bu,Bd,Bp,C8,A5,Bc,Ba,A0,A1,Bm,B5,ofOpt,ofOptS,Bb,Cp,Bz,Nat.reduceLT,Nat.reduceEqDiff,Aa,Ab,Ac,Ag,Ah,Aj,Ak,G9,fp0,Cw,Ec,hf1,hf5,q34]
       refine WC.mono (Jc c34 hp34 hi32 hts 1 0 [[108,101,116]] (by decide) (by decide)) ?_
       cases hX36:Ef ts [[108,101,116]] j17 with
       | out=>exact absurd hX36 (G3 _ _ _)
       | bad a e =>
        rintro _ ⟨S36,rfl,x36⟩
        simp only [Cl,Cq,Cg]
        exact ⟨_,rfl,y35.trans x36⟩
       | ok a36 j36 =>
        rw [hX36] at ho; rw [D2] at ho ⊢
        rintro _ ⟨_,S36,rfl,rfl,x36,c36,hi36⟩
        have hp36:p < S36.next:=Nat.lt_of_lt_of_le hp34 x36.1
        have y37:=(y35).trans x36
        have bd_37:=bd_35.keep x36
        have br_37:=br_35.keep x36
        simp only [Bk,Bq,Dx,A4,Be,Bd,Bp,Nat.reduceLT,Ac]
        have neE:=Gp ho
        refine WX.mono (rD hts h2p n hn S hp S.next S7.next (Nat.le_refl _) y8.1 hne a5.text a5.pos va vb .nils n [] j36 _ _ .nils [] neE (by simp; omega) (by simp [T.get_set]) (by simp [T.get_set]) (by simp [T.get_set]) c36 hp36 hi36 br_37 bd_37 (.inl ⟨rfl,rfl⟩) .nil y37) ?_
        rintro _ (⟨t9,S9,d9,es9,l9,i9,rfl,g0,g2,g4,hr9,hb9,hq9,hf9,x9,c9,hi9,hp9,e9⟩ | ⟨t9,S9,a9,e9,rfl,x9,q9⟩)
        ·rw [e9] at ho ⊢
         rw [D2] at ho ⊢
         simp only [A6,Bk,A4,C7,C5,A7,Bf,Bh,Bd,A5,Bc,Ba,A0,Bm,B5,ofOpt,Bb,Cp,Bz,Nat.reduceLT,Nat.reduceEqDiff,Aa,Ab,Ac,Aj,Ak,fp0,Ec,hf1,g0]
         refine WC.mono (Jc c9 hp9 hi9 hts 1 0 [[116,101,108]] (by decide) (by decide)) ?_
         cases hX39:Ef ts [[116,101,108]] i9 with
         | out=>exact absurd hX39 (G3 _ _ _)
         | bad a e =>
          rintro _ ⟨S39,rfl,x39⟩
          simp only [Cl,Cq,Cg]
          exact ⟨_,rfl,x9.trans x39⟩
         | ok a39 j39 =>
          rw [hX39] at ho; rw [D2] at ho ⊢
          rintro _ ⟨_,S39,rfl,rfl,x39,c39,hi39⟩
          have hp39:p < S39.next:=Nat.lt_of_lt_of_le hp9 x39.1
          have y40:=(x9).trans x39
          have br_40:=hr9.keep x39
          have bd_40:=hb9.keep x39
          have lz:=ldG Vp N4 bd_40.get rfl
          obtain ⟨g41,h41,gx,gc⟩:=dJ Vp N4 (S0:=S) c39 br_40 rfl (Nat.le_refl _) y40 (xs:=Fg a5.text a5.pos va vb .nils d9) rfl
          simp only [A6,Bk,B1,A4,Be,A7,Bf,Br,Bu,Bd,Bp,A5,Bc,Ba,A0,ofOpt,Cp,Bi,B0,Bg,Cs,Nat.reduceLT,Nat.reduceEqDiff,Aa,Ab,Ac,g2,g4,lz,g41,h41]
          exact ⟨_,_,rfl,⟨va,vb,.nils,d9,es9,rfl,hva,hvb,.inl ⟨rfl,rfl⟩,hq9.imp id (fun ⟨tok,h,_⟩=>⟨tok,h⟩),hf9⟩,gx,gc,hi39⟩
        ·rw [q9] at ho ⊢
         simp only [Cl,Dc,Cg]
         exact ⟨_,rfl,x9⟩
end
inductive NodeRows:List AV → List PN → Prop where
 | nil:NodeRows [] []
 | cons (a:AV) (q:PN) (r:List AV) (l:List PN) (h:Gr a q) (h2:NodeRows r l):NodeRows (a :: r) (q :: l)
theorem NodeRows.app:∀ {es:List AV} {l:List PN} {a:AV} {e:PN},NodeRows es l → Gr a e → NodeRows (es ++ [a]) (l ++ [e]):=fun {es l a e} h h2=>by
 induction es generalizing l with
 | nil=>cases h; exact .cons _ _ _ _ h2 .nil
 | cons x r ih=>cases h with
  | cons _ e2 _ l2 h3 h4=>exact .cons _ _ _ _ h3 (ih h4)
theorem NodeRows.len:∀ {es:List AV} {l:List PN},NodeRows es l → es.length=l.length:=fun {es l} h=>by
 induction es generalizing l with
 | nil=>cases h; rfl
 | cons a r ih=>cases h with
  | cons _ e _ l2 h h2=>simp [ih h2]
theorem i49:(Tryz.prog.info? 49).map (fun i=>(i.zero,i.size,i.bytes))=some (some (.agg #[.string ⟨#[]⟩,.int .i64 0,.slice none 0 0,.slice none 0 0,.slice none 0 0,.slice none 0 0]),6,120):=by kernel_rfl
theorem el40:Ir Tryz.prog 40=some (none,49):=by kernel_rfl
theorem un40:Tryz.prog.underlying 40=some (.slice 49):=by kernel_rfl
theorem zr49:Mi Tryz.prog 49=some (.agg Me):=by kernel_rfl
theorem row40_1 (xs:List AV) (hx:xs.length=6):Dw Tryz.prog 40 1 [(0,.agg xs)]=some (.sl 1 0 6 [.agg xs]):=by
 simp [Dw,el40,N4,zr49,Ca,Cb,hx]
theorem app40 (S:St) (a b:AV):Gw E1 S 40 40 a b=Fh Tryz.prog S 40 40 a b:=rfl
theorem push40 {lo:Nat} {S:St} {tok:Nat} {es:List AV} (h:Ym 6 lo S tok es) (hn:2 ≤ S.next) (hlo:lo ≤ S.next) (xs:List AV) (hx:xs.length=6) (hl:es.length ≤ 2000000) :
  ∃ S',Gw E1 S 40 40 (.sl tok 0 6 es) (.sl 1 0 6 [.agg xs])=some (.sl S.next 0 6 (es ++ [.agg xs]),S') ∧ Ym 6 lo S' S.next (es ++ [.agg xs]) ∧ S.next ≤ S'.next ∧ ∀ id,id < lo → S'.mem.get id=S.mem.get id:=by
 obtain ⟨i,hi,hz0,hz1,hz2⟩:=Hb i49
 have hb1:(es.length + 1) * 120 ≤ 140737488355328:=by omega
 have hb2:es.length + 1 ≤ 9223372036854775807:=by omega
 rw [app40]
 rcases h with rfl | ⟨h1,h2,h3,h5⟩
 ·refine ⟨S.grown 1 ((es ++ [AV.agg xs]).length * 6),?_,.inr ⟨hn,hlo,Nat.lt_succ_self _,?_⟩,Nat.le_succ _,fun id hid=>?_⟩
  ·simp [Fh,el40,hi,hz0,hz1,hz2,Mr,un40,Value.cells,Px,hb1,hb2]
  ·show (S.mem.set S.next _).get S.next=_
   rw [T.get_set,if_pos rfl]
  ·show (S.mem.set S.next _).get id=_
   rw [T.get_set,if_neg (by omega)]
 ·obtain ⟨k,rfl⟩:∃ k,tok=k + 2:=⟨tok - 2,by omega⟩
  refine ⟨S.grown (k + 2) ((es ++ [AV.agg xs]).length * 6),?_,.inr ⟨hn,hlo,Nat.lt_succ_self _,?_⟩,Nat.le_succ _,fun id hid=>?_⟩
  ·simp [Fh,el40,hi,hz0,hz1,hz2,Mr,un40,Value.cells,Px,h5,hb1,hb2]
  ·show ((S.mem.set (k + 2) none).set S.next _).get S.next=_
   rw [T.get_set,if_pos rfl]
  ·show ((S.mem.set (k + 2) none).set S.next _).get id=_
   rw [T.get_set,if_neg (by omega),T.get_set,if_neg (by omega)]
def L5 (ts:List Tk) (N:Nat):Nat → List PN → Nat → PR (List PN)
 | 0,_,_=>.out
 | n + 1,l,i=>if (tk ts i).text ∈ [[110,111,100,101]] then (Lu ts N i).bind fun q j=>L5 ts N n (l ++ [q]) j else .ok l i
def Fm (ts:List Tk) (n i:Nat):PR (List PN):=(Lu ts n i).bind fun x j=>L5 ts n n [x] j
def Oj (v:AV) (l:List PN):Prop:=∃ tok off es,v=.sl tok off 6 es ∧ NodeRows es l
def pA:Code:=match Tryz.f58.body with
 | some (.seq _ (.seq _ (.seq (.block _ (.loop c)) _)))=>c
 | _=>.skip
def LoopProg (p k:Nat) (ts:List Tk) (S0:St) (x:PR (List PN)) (r:O):Prop :=
 (∃ t' S' tok es l i',r=.out (.exit 0) ⟨t',[]⟩ S' ∧ t'.get 3=some (.sl tok 0 6 es) ∧ NodeRows es l ∧ D7 p S0 S' ∧ Cur S' p k ts i' ∧ i' < ts.length ∧ p < S'.next ∧ x=.ok l i') ∨
 (∃ t' S' a e,r=.out (.pan (Zm a e)) ⟨t',[]⟩ S' ∧ D7 p S0 S' ∧ x=.bad a e)
section
variable {p k:Nat} {ts:List Tk} (hts:TokOk ts)
include hts
theorem vA (h2p:2 ≤ p) (N:Nat) (hN:N ≤ 1000000) (S0:St) (hp0:p < S0.next):∀ (n:Nat) (l:List PN) (i:Nat) (t:T AV) (S:St) (tok:Nat) (es:List AV),L5 ts N n l i ≠ .out → n + l.length ≤ 2000000 →
  t.get 0=some (.ptr p 0) → t.get 3=some (.sl tok 0 6 es) → Cur S p k ts i → p < S.next → i < ts.length → Ym 6 S0.next S tok es → NodeRows es l → D7 p S0 S →
  WX E1 18 (.loop pA) ⟨t,[]⟩ S (LoopProg p k ts S0 (L5 ts N n l i))
 | 0,l,i,t,S,tok,es,ho,hnl,h0,h3,h,hp,hi,hr,hf,hx=>absurd rfl ho
 | n + 1,l,i,t,S,tok,es,ho,hnl,h0,h3,h,hp,hi,hr,hf,hx=>by
  refine Do (Dh ?_)
  obtain ⟨fn1,hf1⟩:=X3
  obtain ⟨fn2,hf2⟩:=fnOk90
  have eP:L5 ts N (n + 1) l i=if (tk ts i).text ∈ [[110,111,100,101]] then (Lu ts N i).bind fun q j=>L5 ts N n (l ++ [q]) j else .ok l i:=rfl
  rw [eP] at ho ⊢
  clear eP
  have e0:=Nn hi
  simp only [A6,Bk,A7,Bf,Bh,Bd,A5,Bc,Ba,A0,Bm,B5,ofOpt,Bb,Cp,Bz,Nat.reduceLT,Nat.reduceEqDiff,Aa,Ab,Ac,Aj,Ak,Tryz.f58,fp0,Ec,hf1,h0,pA]
  refine WC.mono (Si _ p k ts i h hp hi 1 0 [[110,111,100,101]] (by decide)) ?_
  rintro _ ⟨S1,rfl,k1⟩
  have x1:=k1.x p
  have c1:=h.keep hp k1
  have hp1:p < S1.next:=Nat.lt_of_lt_of_le hp x1.1
  have y2:=(hx).trans x1
  rw [← e0]
  by_cases hm:(tk ts i).text ∈ [[110,111,100,101]]
  ·rw [if_pos hm] at ho ⊢
   rw [decide_eq_true hm]
   simp only [Bv,Bo,A6,Bl,Bq,C1,A4,C7,Be,A7,Bf,Bh,Bd,Bp,De,A5,Bc,Ba,A0,Bm,B5,ofOpt,Nat.reduceLT,Nat.reduceEqDiff,Aa,Ab,Ac,Aj,Ak,hf2,h0,h3]
   have ne1:=Gp ho
   refine WC.mono (node_p hts h2p N hN _ _ c1 hp1 hi ne1) ?_
   cases hX3:Lu ts N i with
   | out=>exact absurd hX3 ne1
   | bad a e =>
    rintro _ ⟨S3,rfl,x3⟩
    simp only [Dy,Dc,Cq]
    exact .inr ⟨_,_,_,_,rfl,y2.trans x3,rfl⟩
   | ok a3 j3 =>
    rw [hX3] at ho; rw [D2] at ho ⊢
    rintro _ ⟨v9,S3,rfl,hv9,x3,c3,hi3⟩
    obtain ⟨xs,rfl,hxl⟩:∃ xs,v9=.agg xs ∧ xs.length=6:=by obtain ⟨a,b,c,d,es,e,_⟩:=hv9; exact ⟨_,e,rfl⟩
    have hp3:p < S3.next:=Nat.lt_of_lt_of_le hp1 x3.1
    have y4:=(y2).trans x3
    have rw1:=row40_1 xs hxl
    have hr2:Ym 6 S0.next S3 tok es:=hr.keep ((x1).trans x3) hp0
    have hle:=y4.1
    obtain ⟨S5,a5,r5,n5,k5⟩:=push40 hr2 (by omega) hle xs hxl (by rw [hf.len]; omega)
    have z9:D7 p S0 S5:=⟨Nat.le_trans hle n5,fun id hid hn=>(k5 id hid).trans (y4.2 id hid hn)⟩
    have c9:Cur S5 p k ts j3:=(k5 p hp0).trans c3
    simp only [Bw,Cf,Be,A7,Bf,Bd,Bp,A5,Bc,Ba,A0,Bm,ofOpt,ofOptS,Cp,Bz,Nat.reduceLT,Nat.reduceEqDiff,Aa,Ab,Ac,rw1,a5]
    exact vA h2p N hN S0 hp0 n _ _ _ _ _ _ ho (by rw [List.length_append]; simp; omega) (by simp [T.get_set,h0]) (by simp [T.get_set]) c9 (by omega) hi3 r5 (hf.app hv9) z9
  ·rw [if_neg hm] at ho ⊢
   rw [decide_eq_false hm]
   simp only [Bv,Bo,A6,Bl,Bq,C1,A4,C7,Be,A7,Bf,Bh,Bd,Bp,C8,A5,Bc,Ba,A0,Bm,B5,ofOpt,Nat.reduceLT,Nat.reduceEqDiff,Aa,Ab,Ac,Aj,Ak,hf2,h0,h3]
   exact .inl ⟨_,_,tok,es,l,i,rfl,by simp [T.get_set,h3],hf,y2,c1,hi,hp1,rfl⟩
theorem program_p (h2p:2 ≤ p) (n:Nat) (hn:n ≤ 1000000) (S:St) (i:Nat) (h:Cur S p k ts i) (hp:p < S.next) (hi:i < ts.length) (ho:Fm ts n i ≠ .out):WC E1 58 [.ptr p 0] S (Re p k ts S Oj (Fm ts n i)):=by
 have eP:Fm ts n i=(Lu ts n i).bind fun x j=>L5 ts n n [x] j:=rfl
 rw [eP] at ho ⊢
 clear eP
 refine Dv Tryz.f58 (by kernel_rfl) (by kernel_rfl) (by kernel_rfl) (by show (_:Nat) ≤ _;simp [Tryz.f58]) ?_
 obtain ⟨fn2,hf2⟩:=fnOk90
 simp only [A6,Bk,A4,Be,A7,Bf,Bh,Bd,A5,Bc,Ba,Ce,A0,A1,Bm,B5,ofOpt,Bb,Nat.reduceLT,Nat.reduceEqDiff,Aa,Ab,Ac,Ae,Aj,Ak,Tryz.f58,hf2]
 have ne1:=Gp ho
 refine WC.mono (node_p hts h2p n hn _ _ h hp hi ne1) ?_
 cases hX1:Lu ts n i with
 | out=>exact absurd hX1 ne1
 | bad a e =>
  rintro _ ⟨S1,rfl,x1⟩
  simp only [Cl,Cq,Cg]
  exact ⟨_,rfl,x1⟩
 | ok a1 j1 =>
  rw [hX1] at ho; rw [D2] at ho ⊢
  rintro _ ⟨v9,S1,rfl,hv9,x1,c1,hi1⟩
  obtain ⟨xs,rfl,hxl⟩:∃ xs,v9=.agg xs ∧ xs.length=6:=by obtain ⟨a,b,c,d,es,e,_⟩:=hv9; exact ⟨_,e,rfl⟩
  have hp1:p < S1.next:=Nat.lt_of_lt_of_le hp x1.1
  have rw1:=row40_1 xs hxl
  simp only [Bk,Bq,Dx,A4,Be,A7,Bf,Bd,Bp,A5,Bc,Ba,A0,A1,ofOpt,Cp,Bz,Nat.reduceLT,Nat.reduceEqDiff,Aa,Ab,Ac,rw1]
  refine WX.mono (vA hts h2p n hn S hp n [a1] j1 _ _ 1 [.agg xs] ho (by simp; omega) (by simp [T.get_set]) (by simp [T.get_set]) c1 hp1 hi1 (.inl rfl) (.cons _ _ _ _ hv9 .nil) x1) ?_
  rintro _ (⟨t9,S9,tok9,es9,l9,i9,rfl,g3,hf9,x9,c9,hi9,hp9,e9⟩ | ⟨t9,S9,a9,e9,rfl,x9,q9⟩)
  ·rw [e9]
   simp only [A6,Bk,B1,A4,C7,C5,Be,A7,Bf,Bd,A5,Bc,Ba,A0,ofOpt,Bi,B0,Bg,Cs,Nat.reduceLT,Nat.reduceEqDiff,Aa,Ab,Ac,g3]
   exact ⟨_,_,rfl,⟨tok9,0,es9,rfl,hf9⟩,x9,c9,hi9⟩
  ·rw [q9]
   simp only [Cl,Dc,Cg]
   exact ⟨_,rfl,x9⟩
end
end Go.Ax
noncomputable section
namespace Go.Ax
open Go.RowKit
def tO (E:Env) (k:FuncId) (args:List AV) (S:St) (m:Option AV) (K:St → Prop):Prop :=
 ∃ fn id ops rest o d,E.F k=some fn ∧ fn.body=some (.seq (.region id ops false) rest) ∧ ops.toList=[o] ∧ gX o=some d ∧ args.length ≤ fn.ntmps ∧ d < fn.ntmps ∧ fn.results.toList=[] ∧
  WX E fn.ntmps rest ⟨(Ce args 0).set d (some (m.getD (.v .nilIface))),[]⟩ S (fun r=>∃ f' S',(r=.out .normal f' S' ∨ r=.out .ret f' S') ∧ f'.dfr=[] ∧ K S')
def Va (E:Env) (rs:List ResultVar) (f:Fr) (S:St) (Q:R → Prop):Prop:=match Bg E f.tmps S rs with
 | some l=>Q (.ret (Cs l) S)
 | none=>False
def finD (E:Env) (rs:List ResultVar) (Q:R → Prop):O → Prop
 | .out e f S=>match f.dfr with
  | []=>finW E rs Q (.out e f S)
  | [⟨.func k,caps,args⟩]=>match e with
   | .normal=>tO E k (args ++ caps) S none (fun S'=>Va E rs f S' Q)
   | .ret=>tO E k (args ++ caps) S none (fun S'=>Va E rs f S' Q)
   | .pan a=>tO E k (args ++ caps) S (some a) (fun S'=>Va E rs f S' Q)
   | _=>False
  | _=>False
 | .fail=>False
theorem aW {E:Env} {k:FuncId} {args:List AV} {S:St} {m:Option AV} {K:St → Prop} (h:tO E k args S m K):∃ S' m0,K S' ∧ ∀ n,m0 ≤ n → dfrA E (run E (Dm E) n) k args S m=.ok m.isSome S':=by
 obtain ⟨fn,id,ops,rest,o,d,h1,h2,h3,h4,h5,h6,h7,r,⟨m0,hm⟩,f',S',hr,hd,hK⟩:=h
 refine ⟨S',m0,hK,fun n hn=>?_⟩
 have hx:=hm n hn
 unfold dfrA
 simp only [h1,h2,h3,h4]
 rw [if_pos ⟨h5,h6⟩,hx]
 rcases hr with rfl | rfl <;> simp only [hd,h7]
theorem WC_dfr {E:Env} {k:FuncId} {args:List AV} {S:St} {Q:R → Prop} (fn:Func) (hI:E.I k=none) (hF:E.F k=some fn) (hb:fn.body.isSome=true) (hl:args.length ≤ fn.ntmps)
  (h:WX E fn.ntmps (fn.body.getD .skip) ⟨Ce args 0,[]⟩ S (finD E fn.results.toList Q)):WC E k args S Q:=by
 obtain ⟨r,⟨m0,hm⟩,hq⟩:=h
 obtain ⟨c,hc⟩:=Option.isSome_iff_exists.1 hb
 have key:∀ m,m0 ≤ m → ckN E m k args S=dW E (run E (Dm E) m) fn r:=fun m hmm=>by
  show Nq E (run E (Dm E) m) k args S=_
  unfold Nq
  rw [hI,hF]
  simp only [hc,if_pos hl]
  have:=hm m hmm
  rw [hc] at this
  rw [show run E (Dm E) m fn.ntmps c ⟨Ce args 0,[]⟩ S=r from this]
 cases r with
 | fail=>exact hq.elim
 | out e f' S' =>
  simp only [finD] at hq
  split at hq
  ·rename_i hd
   have give:∀ (S':St),B0 E fn.results.toList f' S' Q → ∃ l,Bg E f'.tmps S' fn.results.toList=some l ∧ Q (.ret (Cs l) S'):=fun S' hg=>by
    unfold B0 at hg
    split at hg
    ·rename_i l h1 h2; exact ⟨l,h2,hg⟩
    ·exact hg.elim
   cases e with
   | normal =>
    obtain ⟨l,h2,h3⟩:=give S' hq
    exact ⟨_,⟨m0,fun m hmm=>by rw [key m hmm]; simp only [dW,hd,Pk,h2]⟩,h3⟩
   | ret =>
    obtain ⟨l,h2,h3⟩:=give S' hq
    exact ⟨_,⟨m0,fun m hmm=>by rw [key m hmm]; simp only [dW,hd,Pk,h2]⟩,h3⟩
   | pan a=>exact ⟨_,⟨m0,fun m hmm=>by rw [key m hmm]; simp only [dW,hd]⟩,hq.2⟩
   | exit id=>exact hq.elim
  ·rename_i k' caps args' hd
   have give:∀ (S':St),Va E fn.results.toList f' S' Q → ∃ l,Bg E f'.tmps S' fn.results.toList=some l ∧ Q (.ret (Cs l) S'):=fun S' hg=>by
    unfold Va at hg
    split at hg
    ·rename_i l h2; exact ⟨l,h2,hg⟩
    ·exact hg.elim
   cases e with
   | normal =>
    obtain ⟨S2,m1,hK,h1⟩:=aW hq
    obtain ⟨l,h2,h3⟩:=give S2 hK
    exact ⟨_,⟨max m0 m1,fun m hmm=>by rw [key m (by omega)]; simp only [dW,hd,h1 m (by omega),Pk,h2]⟩,h3⟩
   | ret =>
    obtain ⟨S2,m1,hK,h1⟩:=aW hq
    obtain ⟨l,h2,h3⟩:=give S2 hK
    exact ⟨_,⟨max m0 m1,fun m hmm=>by rw [key m (by omega)]; simp only [dW,hd,h1 m (by omega),Pk,h2]⟩,h3⟩
   | pan a =>
    obtain ⟨S2,m1,hK,h1⟩:=aW hq
    obtain ⟨l,h2,h3⟩:=give S2 hK
    exact ⟨_,⟨max m0 m1,fun m hmm=>by rw [key m (by omega)]; simp only [dW,hd,h1 m (by omega),Pk,h2]⟩,h3⟩
   | exit id=>exact hq.elim
  ·exact hq.elim
end Go.Ax
noncomputable section
namespace Go.Ax
open Go.RowKit Go.Proofs
set_option maxRecDepth 100000
theorem end_w (S:St) (p k:Nat) (ts:List Tk) (i:Nat) (h:Cur S p k ts i) (hp:p < S.next) (hi:i < ts.length):WC E1 77 [.ptr p 0] S (fun r=>∃ S',En S S' ∧ ((tk ts i).kind=5 ∧ r=.ret (.tup []) S' ∨ (tk ts i).kind ≠ 5 ∧ r=.pan (Zm (tk ts i).pos (Ia (tk ts i))) S')):=by
 refine Dv Tryz.f77 (by kernel_rfl) (by kernel_rfl) (by kernel_rfl) (by show (_:Nat) ≤ _;simp [Tryz.f77]) ?_
 obtain ⟨fn1,hf1⟩:=R3
 obtain ⟨fn2,hf2⟩:=fnOk114
 have e0:=Nn hi
 simp only [A6,Bk,A7,Bf,Bh,Bd,A5,Bc,Ba,Ce,A0,A1,Bm,B5,ofOpt,Nat.reduceLT,Nat.reduceEqDiff,Aa,Ab,Ac,Ae,Aj,Ak,Tryz.f77,hf1]
 refine WC.mono (cS _ p k ts i h hp hi) ?_
 rintro _ ⟨S2,rfl,hk⟩
 by_cases h5:(tk ts i).kind=5
 ·have n5:(((ts[i].kind:Nat):Int) != 5)=false:=by rw [← e0,h5]; rfl
  simp only [Bo,A6,Bl,A4,Be,A7,Bf,Bd,Bp,C8,A5,Bc,Ba,A0,A1,Bm,B5,ofOpt,Bb,Cp,Bs,Di,Nat.reduceLT,Nat.reduceEqDiff,Aa,Ab,Ac,Aj,Ak,Am,Ly,Dq,n5]
  exact ⟨_,hk,.inl ⟨h5,rfl⟩⟩
 ·have n5:(((ts[i].kind:Nat):Int) != 5)=true:=by rw [← e0,bne_iff_ne]; omega
  simp only [Bo,A6,Bl,A4,Be,A7,Bf,Bh,Bd,Bp,De,A5,Bc,Ba,A0,A1,Bm,B5,ofOpt,Bb,Cp,Bs,Di,Nat.reduceLT,Nat.reduceEqDiff,Aa,Ab,Ac,Aj,Ak,Am,Ly,Dq,n5,hf2]
  refine WC.mono (oV S2 p k ts i (h.keep hp hk) (Nat.lt_of_lt_of_le hp hk.1) hi) ?_
  rintro _ ⟨S3,rfl,hk3⟩
  simp only [Cq,Cg]
  exact ⟨_,hk.trans hk3,.inr ⟨h5,by rw [e0]⟩⟩
def nilT (r:OR) (S:St) (x:Option AV):OR:=match x with
 | some (.v .nilIface)=>.val (.v (.bool true)) S
 | _=>r
theorem eqOr20 (f:T AV) (S:St) (k:Nat) (dst:Option Tmp) (ty:TypeId) (pos:String) (af:Array Edge) (gd:Option (Nat × Bool)) :
  Mb Tryz.prog gR f S { dst:=dst,op:=.binOp .eql 20 (.tmp k) (.const .nilIface) 20,type:=ty,pos:=pos,after:=af,guard:=gd } .eql 20 (.v .nilIface) (.v .nilIface) =
  nilT (kF Tryz.prog gR f S { dst:=dst,op:=.binOp .eql 20 (.tmp k) (.const .nilIface) 20,type:=ty,pos:=pos,after:=af,guard:=gd } .eql 20 (.v .nilIface) (.v .nilIface)) S (f.get k):=by
 unfold nilT
 split
 ·rename_i hf
  have h0:Kv Tryz.prog .eql 20 (.v .nilIface) (.v .nilIface)=none:=by kernel_rfl
  unfold Mb
  rw [h0]
  have hg:Dp gR f (.tmp k)=some .nilIface:=by unfold Dp; simp only [Ba,hf]; rfl
  have hc:Dp gR f (.const .nilIface)=some .nilIface:=rfl
  unfold ground
  simp only [Op.operands,List.all_cons,List.all_nil,hg,hc,Option.isSome_some,Bool.and_self,Aa]
  have e:execOp (fun x=>(Dp gR f x).getD undef) { dst:=dst,op:=.binOp .eql 20 (.tmp k) (.const .nilIface) 20,type:=ty,pos:=pos,after:=af,guard:=gd }=execOp (fun _=>.nilIface) { dst:=none,op:=.binOp .eql 20 (.tmp 29) (.const .nilIface) 20,type:=4,pos := "", after:=#[],guard:=none }:=by
   simp only [execOp,hg,hc,Ae]
   rfl
  rw [e]
  have e3:(Rr Tryz.prog 4000 (execOp (fun _=>Value.nilIface) { dst:=none,op:=.binOp .eql 20 (.tmp 29) (.const .nilIface) 20,type:=4,pos := "", after:=#[],guard:=none }))=some (.bool true):=by kernel_rfl
  rw [e3]; rfl
 ·rfl
theorem nilT_nil (r:OR) (S:St):nilT r S (some (.v .nilIface))=.val (.v (.bool true)) S:=rfl
theorem fbNilT:Ej .eql (.v .nilIface) (.v .nilIface)=none:=rfl
theorem as33 (a e:Nat):cR Tryz.prog 33 true (.iface 33 (.agg (Ds a e)))=some (.tup [.agg (Ds a e),.v (.bool true)]):=by kernel_rfl
theorem nn20:H9 Tryz.prog 20 (.v .nilIface) (.v .nilIface)=false:=by kernel_rfl
theorem nn20i (t:TypeId) (a:AV):H9 Tryz.prog 20 (.iface t a) (.v .nilIface)=true:=by kernel_rfl
theorem recov_nil (S:St) (b:Nat) (K:St → Prop) (hK:K S):tO E1 89 [.ptr b 0] S none K:=by
 refine ⟨Tryz.f89,_,_,_,_,_,by kernel_rfl,rfl,rfl,rfl,(by show (_:Nat) ≤ _;simp [Tryz.f89]),(show (_:Nat) < _ from by show (_:Nat) < _; simp [Tryz.f89]),rfl,Dh ?_⟩
 simp only [A6,Bk,Bl,Bq,A4,Cf,Be,A7,Bf,Bd,De,A5,Bc,Ba,Ce,A0,A1,ofOpt,Bb,Cp,Fj,Nat.reduceLT,Nat.reduceEqDiff,Aa,Ab,Ac,Am,Tryz.f89,nn20,fbNilT,eqOr20,nilT_nil,Option.getD_none]
 exact ⟨_,_,.inl rfl,rfl,hK⟩
theorem uX (S:St) (b a e:Nat) (cs:List AV) (hb:S.mem.get b=some (.box cs)) (hl:cs.length=2) (hbn:b < S.next) (K:St → Prop) (hK:∀ S',S'.mem.get b=some (.box (Ds a e)) → S.next ≤ S'.next → (∀ id,id < S.next → id ≠ b → S'.mem.get id=S.mem.get id) → K S'):tO E1 89 [.ptr b 0] S (some (Zm a e)) K:=by
 refine ⟨Tryz.f89,_,_,_,_,_,by kernel_rfl,rfl,rfl,rfl,(by show (_:Nat) ≤ _;simp [Tryz.f89]),(show (_:Nat) < _ from by show (_:Nat) < _; simp [Tryz.f89]),rfl,Dh ?_⟩
 unfold Zm
 have q1:Dt Tryz.prog (S.newBox (Ds 0 0)) 33 (.ptr S.next 0) (.agg (Ds a e))=some ((S.newBox (Ds 0 0)).put S.next (Ds a e)):=P2 (Cv S _) rfl rfl
 have q2:=Io (S.newBox (Ds 0 0)) S.next (Ds a e) rfl
 have q3:Dt Tryz.prog ((S.newBox (Ds 0 0)).put S.next (Ds a e)) 33 (.ptr b 0) (.agg (Ds a e))=some (((S.newBox (Ds 0 0)).put S.next (Ds a e)).put b (Ds a e)):=P2 ((Eg (by omega)).trans ((Fy hbn).trans hb)) hl rfl
 simp only [A6,Bk,Bl,Bq,A4,Cf,Dc,Be,A7,Bf,Br,D5,Bu,Bd,De,C8,A5,Bc,Ba,Ce,A0,A1,ofOpt,ofOptS,Bb,Cp,Fj,Nat.reduceLT,Nat.reduceEqDiff,Aa,Ab,Ac,Ae,Ag,Ah,Tryz.f89,nn20i,as33,Ov,Cw,q1,q2,q3]
 exact ⟨_,_,.inl rfl,rfl,hK _ (Ed _ _ _) (by rw [Qz]; exact Nat.le_succ _) (fun id hid hn=>(Eg hn).trans ((Eg (by omega)).trans (Fy hid)))⟩
theorem fnOk58:∃ fn,E1.F 58=some fn:=Option.isSome_iff_exists.1 (by kernel_rfl)
theorem fnOk57:∃ fn,E1.F 57=some fn:=Option.isSome_iff_exists.1 (by kernel_rfl)
theorem fnOk25:∃ fn,E1.F 25=some fn:=Option.isSome_iff_exists.1 (by kernel_rfl)
theorem fnOk77:∃ fn,E1.F 77=some fn:=Option.isSome_iff_exists.1 (by kernel_rfl)
section
variable {p k:Nat} {ts:List Tk} (hts:TokOk ts)
include hts
theorem whole_p (h2p:2 ≤ p) (n:Nat) (hn:n ≤ 1000000) (S:St) (i:Nat) (h:Cur S p k ts i) (hp:p < S.next) (hi:i < ts.length) (ho:Fm ts n i ≠ .out):WC E1 57 [.ptr p 0] S (Re p k ts S Oj (Fm ts n i)):=by
 refine Dv Tryz.f57 (by kernel_rfl) (by kernel_rfl) (by kernel_rfl) (by show (_:Nat) ≤ _;simp [Tryz.f57]) ?_
 obtain ⟨fn1,hf1⟩:=fnOk58
 simp only [A6,Bk,A4,Be,A7,Bf,Bh,Bd,A5,Bc,Ba,Ce,A0,A1,Bm,B5,ofOpt,Bb,Nat.reduceLT,Nat.reduceEqDiff,Aa,Ab,Ac,Ae,Aj,Ak,Tryz.f57,hf1]
 refine WC.mono (program_p hts h2p n hn S i h hp hi ho) ?_
 cases hX:Fm ts n i with
 | out=>exact absurd hX ho
 | bad a e =>
  rintro _ ⟨S4,rfl,x4⟩
  simp only [Cl,Cq,Cg]
  exact ⟨_,rfl,x4⟩
 | ok a j =>
  rintro _ ⟨v,S4,rfl,hr,x4,c4,hj⟩
  simp only [B1,A4,Be,A7,Bf,Bd,Bp,A5,Bc,Ba,A0,A1,ofOpt,Bi,B0,Bg,Cs,Nat.reduceLT,Nat.reduceEqDiff,Aa,Ab,Ac]
  exact ⟨_,_,rfl,hr,x4,c4,hj⟩
end
theorem wS {E:Env} {rs:List ResultVar} {Q:R → Prop} {t:T AV} {S:St}:finD E rs Q (.out .ret ⟨t,[]⟩ S)=B0 E rs ⟨t,[]⟩ S Q:=id rfl
theorem Zc {E:Env} {rs:List ResultVar} {Q:R → Prop} {t:T AV} {S:St} {k:FuncId} {caps args:List AV} {a:AV}:finD E rs Q (.out (.pan a) ⟨t,[⟨.func k,caps,args⟩]⟩ S)=tO E k (args ++ caps) S (some a) (fun S'=>Va E rs ⟨t,[⟨.func k,caps,args⟩]⟩ S' Q):=id rfl
theorem ag33:Fo Tryz.prog 33=some true:=by kernel_rfl
theorem fa33_1 (b:Nat):C2 Tryz.prog 33 (.ptr b 0) 1=some (.ptr b 1):=by kernel_rfl
theorem ld31f {S:St} {id a e:Nat} (h:S.mem.get id=some (.box (Ds a e))):Cd Tryz.prog S 31 (.ptr id 1)=some (.v (.int .i64 (e:Int))):=by
 have a31:Fo Tryz.prog 31=some false:=by kernel_rfl
 simp [Cd,D0,h,a31,Ds,Dq]
theorem b144 (tok:Nat) (es:List AV):Gc Tryz.prog 144 [(0,.sl tok 0 4 es)]=some (.agg [.sl tok 0 4 es,Dq 0]):=by kernel_rfl
theorem b146t (tok:Nat) (es:List AV):Gc Tryz.prog 146 [(0,.agg [.sl tok 0 4 es,Dq 0])]=some (.agg [.sl tok 0 4 es,Dq 0]):=by kernel_rfl
def Kg (n:Nat) (out:(Nat × Nat) ⊕ List Tk):Option (List PN ⊕ (Nat × Nat)):=match out with
 | .inl x=>some (.inr x)
 | .inr ts=>match Fm ts n 0 with
  | .ok l j=>if (tk ts j).kind=5 then some (.inl l) else some (.inr ((tk ts j).pos,Ia (tk ts j)))
  | .bad a e=>some (.inr (a,e))
  | .out=>none
def ReadPost (S:St) (x:Option (List PN ⊕ (Nat × Nat))) (r:R):Prop:=match x with
 | some (.inl l)=>∃ v S',r=.ret (.tup [v,.agg (Ds 0 0)]) S' ∧ Oj v l ∧ En S S'
 | some (.inr y)=>∃ S',r=.ret (.tup [.nils,.agg (Ds y.1 y.2)]) S' ∧ En S S'
 | none=>True
theorem read_p (l:List UInt8) (S:St) (hS:2 ≤ S.next) (hsz:l.length ≤ 1000000) (out:(Nat × Nat) ⊕ List Tk) (hlx:Kt l=some out) (hx:∀ x,out=.inl x → x.2 ≠ 0) (n:Nat) (hn:n ≤ 1000000) (hok:∀ ts,out=.inr ts → TokOk ts ∧ 0 < ts.length ∧ Fm ts n 0 ≠ .out):WC E1 56 [Bt l,.fn (.func 57) [] []] S (ReadPost S (Kg n out)):=by
 refine WC_dfr Tryz.f56 (by kernel_rfl) (by kernel_rfl) (by kernel_rfl) (by show (_:Nat) ≤ _;simp [Tryz.f56]) (Dh ?_)
 obtain ⟨fn1,hf1⟩:=fnOk25
 obtain ⟨fn2,hf2⟩:=fnOk57
 obtain ⟨fn3,hf3⟩:=fnOk77
 have k1:=Cz S (Ds 0 0)
 simp only [A6,Bk,A4,Be,A7,Bf,Bh,Bd,A5,Bc,Ba,Ce,A0,A1,Bm,B5,ofOpt,ofOptS,Bb,Cp,Nat.reduceLT,Nat.reduceAdd,Nat.reduceEqDiff,Aa,Ab,Ac,Ae,Aj,Ak,Tryz.f56,Ov,hf1]
 refine WC.mono (all_w l (S.newBox (Ds 0 0)) (Nat.le_succ_of_le hS) hsz out hlx) ?_
 cases out with
 | inl x =>
  rintro _ ⟨S2,rfl,k2⟩
  have hx2:=hx x rfl
  have q1:Dt Tryz.prog (S2.newBox (Ds 0 0)) 33 (.ptr S2.next 0) (.agg (Ds x.1 x.2))=some ((S2.newBox (Ds 0 0)).put S2.next (Ds x.1 x.2)):=P2 (Cv S2 _) rfl rfl
  have g1:=Ed (S2.newBox (Ds 0 0)) S2.next (Ds x.1 x.2)
  have k3:En S2 ((S2.newBox (Ds 0 0)).put S2.next (Ds x.1 x.2)):=Et (Cz S2 _) (Nat.le_refl _) _
  generalize hS3:(S2.newBox (Ds 0 0)).put S2.next (Ds x.1 x.2)=S3 at q1 g1 k3
  have q2:=ld31f g1
  have n1:(((x.2:Nat):Int) != 0)=true:=by rw [bne_iff_ne]; omega
  have q3:=ldG ag33 s33 g1 rfl
  have g5:S3.mem.get S.next=some (.box (Ds 0 0)):=((k2.trans k3).2 _ (Nat.lt_succ_self _)).trans (Cv S _)
  have q4:Dt Tryz.prog S3 33 (.ptr S.next 0) (.agg (Ds x.1 x.2))=some (S3.put S.next (Ds x.1 x.2)):=P2 g5 rfl rfl
  have q5:=Io S3 S.next (Ds x.1 x.2) rfl
  simp only [Bo,A6,Co,Bk,Bl,A4,Be,A7,Bf,Br,Bu,Bd,Bp,De,A5,Bc,Ba,A0,A1,B5,ofOpt,ofOptS,Bb,Cp,Bz,Di,Nat.reduceLT,Nat.reduceEqDiff,Aa,Ab,Ac,Ag,Ah,Ak,Am,Ov,Cw,Hx,Ke,q1,fa33_1,q2,Tl,n1]
  refine Fv [(0,true),(1,true),(2,true),(3,true)] (by kernel_rfl) (by kernel_rfl) ?_
  simp only [B1,A4,Dd,A5,Bc,Ba,A0,A1,ofOpt,Cp,B0,Bg,Cs,Nat.reduceLT,Nat.reduceEqDiff,Aa,Ab,Ac,Af,Ag,Ah,D9,Dr,Ee,Fb,Fa,Du,Ei,F4,q3,q4,q5,wS]
  exact ⟨_,rfl,Et (k1.trans (k2.trans k3)) (Nat.le_refl _) _⟩
 | inr ts =>
  rintro _ ⟨S2,tok,rfl,k2⟩
  obtain ⟨hts,h0,hpo⟩:=hok ts rfl
  have q1:Dt Tryz.prog (S2.newBox (Ds 0 0)) 33 (.ptr S2.next 0) (.agg (Ds 0 0))=some ((S2.newBox (Ds 0 0)).put S2.next (Ds 0 0)):=P2 (Cv S2 _) rfl rfl
  have g1:=Ed (S2.newBox (Ds 0 0)) S2.next (Ds 0 0)
  have k3:En S2 ((S2.newBox (Ds 0 0)).put S2.next (Ds 0 0)):=Et (Cz S2 _) (Nat.le_refl _) _
  generalize hS3:(S2.newBox (Ds 0 0)).put S2.next (Ds 0 0)=S3 at q1 g1 k3
  have q2:=ld31f g1
  have n1:(((0:Nat):Int) != 0)=false:=rfl
  have g5:S3.mem.get S.next=some (.box (Ds 0 0)):=((k2.trans k3).2 _ (Nat.lt_succ_self _)).trans (Cv S _)
  have l5:S.next < S3.next:=Nat.lt_of_lt_of_le (Nat.lt_succ_self _) (k2.trans k3).1
  have kk:=k1.trans (k2.trans k3)
  simp only [Bo,A6,Co,Bk,Bl,A4,Be,A7,Bf,Br,Bh,Bu,Bd,Bp,C8,A5,Bc,Ba,A0,A1,Bm,B5,ofOpt,ofOptS,Bb,Cp,Bz,Di,Nat.reduceLT,Nat.reduceEqDiff,Aa,Ab,Ac,Ag,Ah,Aj,Ak,Am,Ov,Cw,Hx,Ke,q1,fa33_1,q2,Tl,n1,b144,b146t,Ca,Cb,hf2]
  have cu:Cur (S3.newBox [.sl tok 0 4 (ts.map Ga),Dq 0]) S3.next tok ts 0:=Cv S3 _
  have k4:=Cz S3 [.sl tok 0 4 (ts.map Ga),Dq 0]
  have b5:Has S3.next (S3.newBox [.sl tok 0 4 (ts.map Ga),Dq 0]) S.next (Ds 0 0):=⟨(k4.2 _ l5).trans g5,Nat.lt_succ_of_lt l5,by omega⟩
  have toK:∀ S',D7 S3.next (S3.newBox [.sl tok 0 4 (ts.map Ga),Dq 0]) S' → En S3 S':=fun S' x=>⟨Nat.le_trans (Nat.le_succ _) x.1,fun id hid=>(x.2 id (Nat.lt_succ_of_lt hid) (by omega)).trans (k4.2 id hid)⟩
  refine WC.mono (whole_p hts (Nat.le_trans hS kk.1) n hn _ 0 cu (Nat.lt_succ_self _) h0 hpo) ?_
  have eR:Kg n (.inr ts)=match Fm ts n 0 with
   | .ok l j=>if (tk ts j).kind=5 then some (.inl l) else some (.inr ((tk ts j).pos,Ia (tk ts j)))
   | .bad a e=>some (.inr (a,e))
   | .out=>none:=rfl
  rw [eR]
  clear eR
  cases hX:Fm ts n 0 with
  | out=>exact absurd hX hpo
  | bad a e =>
   rintro _ ⟨S5,rfl,x5⟩
   have b6:=b5.keep x5
   simp only [Cl,Cq,Aj,Zc]
   refine uX S5 S.next a e (Ds 0 0) b6.get rfl b6.lt _ ?_
   intro S6 g6 n6 k6
   have q6:=ldG ag33 s33 g6 rfl
   unfold Va
   simp only [A0,A1,Cp,Bg,Cs,Nat.reduceEqDiff,Aa,Ab,q6]
   refine ⟨_,rfl,Nat.le_trans (kk.trans (toK S5 x5)).1 n6,fun id hid=>?_⟩
   rw [k6 id (Nat.lt_of_lt_of_le hid (kk.trans (toK S5 x5)).1) (by omega)]
   exact (kk.trans (toK S5 x5)).2 id hid
  | ok l j =>
   rintro _ ⟨v,S5,rfl,hv,x5,c5,hj⟩
   have b6:=b5.keep x5
   simp only [A6,Bk,A4,Be,A7,Bf,Bh,Bd,Bp,A5,Bc,Ba,A0,A1,Bm,B5,ofOpt,Cp,Nat.reduceLT,Nat.reduceEqDiff,Aa,Ab,Ac,Aj,Ak,fp0,hf3]
   refine WC.mono (end_w S5 _ _ ts j c5 (Nat.lt_of_lt_of_le (Nat.lt_succ_self _) x5.1) hj) ?_
   rintro _ ⟨S6,k6,⟨h5,rfl⟩ | ⟨h5,rfl⟩⟩
   ·rw [show (if (tk ts j).kind=5 then some (.inl l) else some (.inr ((tk ts j).pos,Ia (tk ts j))):Option (List PN ⊕ (Nat × Nat)))=some (.inl l) from if_pos h5]
    have b7:=b6.keep (k6.x _)
    have q7:Dt Tryz.prog S6 33 (.ptr S.next 0) (.agg (Ds 0 0))=some (S6.put S.next (Ds 0 0)):=P2 b7.get rfl rfl
    have q8:=Io S6 S.next (Ds 0 0) rfl
    simp only [A6,Bk,B1,A4,Be,A7,Bf,Br,Bu,Bd,Bp,A5,Bc,Ba,A0,A1,ofOpt,Cp,Bz,Nat.reduceLT,Nat.reduceEqDiff,Aa,Ab,Ac,b33_0,q7]
    refine recov_nil _ S.next _ ?_
    unfold Va
    simp only [A0,A1,Cp,Bg,Cs,Nat.reduceEqDiff,Aa,Ab,q8]
    exact ⟨v,_,rfl,hv,Et (kk.trans ((toK S5 x5).trans k6)) (Nat.le_refl _) _⟩
   ·rw [show (if (tk ts j).kind=5 then some (.inl l) else some (.inr ((tk ts j).pos,Ia (tk ts j))):Option (List PN ⊕ (Nat × Nat)))=some (.inr ((tk ts j).pos,Ia (tk ts j))) from if_neg h5]
    have b7:=b6.keep (k6.x _)
    simp only [Cl,Cq,Aj,Zc]
    refine uX S6 S.next (tk ts j).pos (Ia (tk ts j)) (Ds 0 0) b7.get rfl b7.lt _ ?_
    intro S7 g7 n7 k7
    have q9:=ldG ag33 s33 g7 rfl
    unfold Va
    simp only [A0,A1,Cp,Bg,Cs,Nat.reduceEqDiff,Aa,Ab,q9]
    have ka:=kk.trans ((toK S5 x5).trans k6)
    refine ⟨_,rfl,Nat.le_trans ka.1 n7,fun id hid=>?_⟩
    rw [k7 id (Nat.lt_of_lt_of_le hid ka.1) (by omega)]
    exact ka.2 id hid
def Gx {α β:Type} (R:α → β → Prop):PR α → PR β → Prop
 | .ok a i,.ok b j=>i=j ∧ R a b
 | .bad _ e,.bad _ e'=>e=e'
 | .out,.out=>True
 | _,_=>False
section
variable {α β γ δ:Type}
theorem Gx.bind {R:α → β → Prop} {Q:γ → δ → Prop} {x:PR α} {y:PR β} {f:α → Nat → PR γ} {g:β → Nat → PR δ} (h:Gx R x y) (hf:∀ a b i,R a b → Gx Q (f a i) (g b i)):Gx Q (x.bind f) (y.bind g):=by
 cases x <;> cases y <;> simp only [Gx,PR.bind] at h ⊢ <;> first | exact h | exact h.elim | (obtain ⟨rfl,h⟩:=h; exact hf _ _ _ h)
theorem Gx.ite {Q:γ → δ → Prop} {c c':Prop} [Decidable c] [Decidable c'] (hc:c ↔ c') {x y:PR γ} {x' y':PR δ} (h1:c → Gx Q x x') (h2:¬ c → Gx Q y y'):Gx Q (if c then x else y) (if c' then x' else y'):=by
 by_cases h:c
 ·rw [if_pos h,if_pos (hc.1 h)]; exact h1 h
 ·rw [if_neg h,if_neg (fun h'=>h (hc.2 h'))]; exact h2 h
theorem Gx.ok {R:α → β → Prop} {a:α} {b:β} {i:Nat} (h:R a b):Gx R (.ok a i) (.ok b i):=⟨rfl,h⟩
end
mutual
inductive LikeE:PE → PE → Prop where
 | mk (kind pos pos':Nat) (n:Int) (name:List UInt8) (off:Bool) (kids kids':List PE) (h:LikeL kids kids'):LikeE (.mk kind pos n name off kids) (.mk kind pos' n name off kids')
inductive LikeL:List PE → List PE → Prop where
 | nil:LikeL [] []
 | cons (a b:PE) (l m:List PE) (h:LikeE a b) (h2:LikeL l m):LikeL (a :: l) (b :: m)
end
theorem LikeL.snoc:∀ {l m:List PE} {a b:PE},LikeL l m → LikeE a b → LikeL (l ++ [a]) (m ++ [b])
 | [],[],a,b,.nil,h=>.cons _ _ _ _ h .nil
 | _ :: _,_ :: _,a,b,.cons _ _ _ _ h h2,k=>.cons _ _ _ _ h (h2.snoc k)
theorem LikeL.one {a b:PE} (h:LikeE a b):LikeL [a] [b]:=.cons _ _ _ _ h .nil
theorem LikeL.two {a b c d:PE} (h:LikeE a b) (k:LikeE c d):LikeL [a,c] [b,d]:=.cons _ _ _ _ h (.one k)
theorem LikeL.three {a b c d e f:PE} (h:LikeE a b) (k:LikeE c d) (m:LikeE e f):LikeL [a,c,e] [b,d,f]:=.cons _ _ _ _ h (.two k m)
def LikeT (t u:Tk):Prop:=t.kind=u.kind ∧ t.text=u.text ∧ t.num=u.num
structure LikeS (ts us:List Tk):Prop where
 len:ts.length=us.length
 at_:∀ i,LikeT (tk ts i) (tk us i)
section
variable {ts us:List Tk} (h:LikeS ts us)
include h
theorem LikeS.kind (i:Nat):(tk ts i).kind=(tk us i).kind:=(h.at_ i).1
theorem LikeS.text (i:Nat):(tk ts i).text=(tk us i).text:=(h.at_ i).2.1
theorem LikeS.wrong (i:Nat):Ia (tk ts i)=Ia (tk us i):=by unfold Ia; rw [h.kind]
omit h in
theorem rU {a b:PE} (h:LikeE a b):Iu a=Iu b:=by cases h; rfl
end
def Md (a b:PD):Prop:=a.name=b.name ∧ a.bool=b.bool ∧ a.fut=b.fut ∧ a.clock=b.clock ∧ a.off=b.off
def LikeF (a b:List UInt8 × Nat):Prop:=a.1=b.1
inductive Each2 {α β:Type} (R:α → β → Prop):List α → List β → Prop where
 | nil:Each2 R [] []
 | cons (a:α) (b:β) (l:List α) (m:List β) (h:R a b) (h2:Each2 R l m):Each2 R (a :: l) (b :: m)
theorem Each2.snoc {α β:Type} {R:α → β → Prop}:∀ {l:List α} {m:List β} {a:α} {b:β},Each2 R l m → R a b → Each2 R (l ++ [a]) (m ++ [b])
 | [],[],a,b,.nil,h=>.cons _ _ _ _ h .nil
 | _ :: _,_ :: _,a,b,.cons _ _ _ _ h h2,k=>.cons _ _ _ _ h (h2.snoc k)
theorem Each2.one {α β:Type} {R:α → β → Prop} {a:α} {b:β} (h:R a b):Each2 R [a] [b]:=.cons _ _ _ _ h .nil
def Yn (a b:PQ):Prop:=Each2 LikeF a.left b.left ∧ a.async=b.async ∧ LikeE a.e b.e
def Lo (a b:PN):Prop:=a.name=b.name ∧ Each2 Md a.ins b.ins ∧ Each2 Md a.outs b.outs ∧ Each2 Md a.vars b.vars ∧ Each2 Yn a.eqs b.eqs
mutual
theorem Zh:∀ {a b:PE},LikeE a b → Hw a=Hw b
 | _,_,.mk _ _ _ _ _ _ l m h=>by
  show IntKind.i64.wrap (Ns l 0 + 1)=IntKind.i64.wrap (Ns m 0 + 1)
  rw [rM h 0]
theorem rM:∀ {l m:List PE},LikeL l m → ∀ k,Ns l k=Ns m k
 | _,_,.nil,k=>rfl
 | _,_,.cons a b l m h h2,k=>by
  show Ns l (if Hw a > k then Hw a else k)=Ns m (if Hw b > k then Hw b else k)
  rw [Zh h,rM h2]
end
section
variable {ts us:List Tk} (h:LikeS ts us)
include h
omit h in
omit h in
end
def Gy (s:List UInt8):Nat:=if s=[111,114] ∨ s=[120,111,114] then 2 else if s=[97,110,100] then 3 else if s=[43] ∨ s=[45] then 6 else if s=[42] ∨ s=[47] ∨ s=[109,111,100] then 7 else 5
def D1:PE → Nat
 | .mk kind _ n name _ _=>if kind=1 then (if n < 0 then 8 else 10) else if kind=4 ∨ kind=10 then 8 else if kind=5 then 4 else if kind=6 then Gy name else if kind=7 then 0 else if kind=8 ∨ kind=9 then 1 else if kind=11 then 9 else 10
def Ic:PE → Nat
 | .mk kind _ _ _ _ _=>kind
structure KI where
 text:List UInt8
 binds:Nat
 kind:Nat
def kT (ks:List KI) (i least:Nat):List UInt8:=match ks[i]? with
 | none=>[]
 | some k=>if k.binds < least then 40 :: (k.text ++ [41]) else k.text
def K4 (ks:List KI):List UInt8:=Lib.join (ks.map (·.text)) [44,32]
def L3 (name:List UInt8) (off:Bool):List UInt8:=if off then [32,119,104,101,110,32,110,111,116,32] ++ name else [32,119,104,101,110,32] ++ name
def gP (ks:List KI):List UInt8:=if (∃ k,ks[0]? = some k ∧ k.kind=1) ∨ Ey [45] (kT ks 0 8)=true then ([45,40] ++ kT ks 0 8) ++ [41] else [45] ++ kT ks 0 8
def sE (name:List UInt8) (ks:List KI):List UInt8:=(((kT ks 0 (if Gy name=5 then 6 else Gy name) ++ [32]) ++ name) ++ [32]) ++ kT ks 1 (Gy name + 1)
def Uc (name:List UInt8) (ks:List KI):List UInt8:=if 0 < ks.length then ([97,119,97,105,116,32] ++ name) ++ (([32,97,102,116,101,114,32,40] ++ K4 ks) ++ [41]) else [97,119,97,105,116,32] ++ name
def Pb (kind:Nat) (n:Int) (name:List UInt8) (off:Bool) (ks:List KI):List UInt8:=match kind with
 | 1=>Lib.itoa n
 | 2=>if n=0 then [102,97,108,115,101] else [116,114,117,101]
 | 3=>name
 | 4=>gP ks
 | 5=>[110,111,116,32] ++ kT ks 0 4
 | 6=>sE name ks
 | 7=>(((([105,102,32] ++ kT ks 0 0) ++ [32,116,104,101,110,32]) ++ kT ks 1 0) ++ [32,101,108,115,101,32]) ++ kT ks 2 0
 | 8=>(kT ks 0 2 ++ [32,45,62,32]) ++ kT ks 1 1
 | 9=>(kT ks 0 0 ++ [32,102,98,121,32]) ++ kT ks 1 1
 | 10=>[112,114,101,32] ++ kT ks 0 8
 | 11=>kT ks 0 9 ++ L3 name off
 | 12=>((((([109,101,114,103,101,32] ++ name) ++ [32,40]) ++ kT ks 0 0) ++ [41,32,40]) ++ kT ks 1 0) ++ [41]
 | 13=>((name ++ [40]) ++ K4 ks) ++ [41]
 | 14=>Uc name ks
 | _=>[]
mutual
def D3:PE → List UInt8
 | .mk kind _ n name off kids=>Pb kind n name off (Dz kids)
def Dz:List PE → List KI
 | []=>[]
 | e :: r=>⟨D3 e,D1 e,Ic e⟩ :: Dz r
end
def Hl:PE → Nat
 | .mk _ _ _ _ _ kids=>1 + sizeL kids
where sizeL:List PE → Nat
 | []=>0
 | e :: r=>Hl e + sizeL r
inductive Fit:PE → Prop where
 | mk (kind pos:Nat) (n:Int) (name:List UInt8) (off:Bool) (kids:List PE) (hn:-9223372036854775808 ≤ n ∧ n ≤ 9223372036854775807) (hname:name.length ≤ 30) (hk:∀ e ∈ kids,Fit e):Fit (.mk kind pos n name off kids)
theorem next_kind {l:List UInt8} {i:Nat} {t:Tk} (h:Ja l i=some (t,0)):t.kind ≠ 5:=by
 unfold Ja at h
 split at h
 ·cases h
 ·rename_i b r
  split at h
  ·injection h with h
   unfold O9 at h
   split at h
   ·injection h with h1 h2; subst h1; exact fun e=>by cases e
   ·split at h
    ·injection h with h1 h2; cases h2
    ·injection h with h1 h2; subst h1; exact fun e=>by cases e
  ·split at h
   ·unfold aH at h
    split at h
    ·injection h with h; injection h with h1 h2; cases h2
    ·split at h
     ·split at h
      ·injection h with h; injection h with h1 h2; cases h2
      ·injection h with h; injection h with h1 h2; subst h1; exact fun e=>by cases e
     ·injection h with h; injection h with h1 h2; cases h2
   ·injection h with h
    unfold Nr at h
    split at h
    ·injection h with h1 h2; subst h1; exact fun e=>by cases e
    ·injection h with h1 h2; cases h2
theorem allF_ok (l:List UInt8):∀ (n i:Nat) (ts:List Tk),Qk l n i=some (.inr ts) → 0 < ts.length ∧ (∀ j (h:j < ts.length),ts[j].kind ≠ 5 → j + 1 < ts.length) ∧ (∀ j (h:j < ts.length),ts[j].kind=5 → ts[j].text=[]) ∧ ts.length ≤ n
 | 0,i,ts,h=>by cases h
 | n + 1,i,ts,h=>by
  unfold Qk at h
  split at h
  ·split at h
   ·cases h
   ·rename_i p hp
    split at h
    ·rename_i he
     split at h
     ·cases h
     ·cases h
     ·rename_i ts2 h2
      injection h with h; injection h with h; subst h
      obtain ⟨a1,a2,a3,a4⟩:=allF_ok l n _ ts2 h2
      have hk:p.1.kind ≠ 5:=next_kind (i:=i) (by rw [hp,← he])
      refine ⟨by simp,fun j hj hne=>?_,fun j hj he5=>?_,by simp; omega⟩
      ·cases j with
       | zero=>simp; omega
       | succ j =>
        have:=a2 j (by simpa using hj) (by simpa using hne)
        simp; omega
      ·cases j with
       | zero=>exact absurd he5 hk
       | succ j=>exact a3 j (by simpa using hj) (by simpa using he5)
    ·cases h
  ·injection h with h; injection h with h; subst h
   refine ⟨by simp,fun j hj hne=>?_,fun j hj he5=>?_,by simp⟩
   ·have:j=0:=by simp at hj; exact hj
    subst this
    exact absurd rfl hne
   ·have:j=0:=by simp at hj; exact hj
    subst this
    rfl
theorem allF_bad (l:List UInt8):∀ (n i:Nat) (x:Nat × Nat),Qk l n i=some (.inl x) → x.2 ≠ 0
 | 0,i,x,h=>by cases h
 | n + 1,i,x,h=>by
  unfold Qk at h
  split at h
  ·split at h
   ·cases h
   ·rename_i p hp
    split at h
    ·split at h
     ·cases h
     ·rename_i y h2
      injection h with h; injection h with h; subst h
      exact allF_bad l n _ _ h2
     ·cases h
    ·rename_i he
     injection h with h; injection h with h; subst h
     exact he
  ·cases h
theorem Y5 {l:List UInt8} {ts:List Tk} (h:Kt l=some (.inr ts)):TokOk ts ∧ 0 < ts.length:=by
 unfold Kt at h
 split at h
 ·cases h
 ·obtain ⟨a1,a2,a3,a4⟩:=allF_ok l _ _ ts h
  exact ⟨⟨a2,a3,by omega⟩,a1⟩
theorem qB {l:List UInt8} {x:Nat × Nat} (h:Kt l=some (.inl x)):x.2 ≠ 0:=by
 unfold Kt at h
 split at h
 ·injection h with h; injection h with h; subst h; exact fun e=>by cases e
 ·exact allF_bad l _ _ x h
def Ul:List (List UInt8):=[[32],[10],[9],[32,45,45,32,40,120,10]]
theorem mQ {p:UInt8 → Bool} {b:UInt8} {r:List UInt8} (h:p b=true):cnt p (b :: r)=cnt p r + 1:=by
 show (if p b then cnt p r + 1 else 0)=_
 rw [if_pos h]
theorem uJ {s0:List UInt8} (h:s0 ∈ Gb) {c:UInt8} (hc:c=32 ∨ c=10 ∨ c=9) (X:List UInt8):Gb.find? (fun s=>Ey s (s0 ++ c :: X))=some s0 ∧ Ey [45,45] (s0 ++ c :: X)=false ∧ (∃ b r,s0=b :: r ∧ G0 b=false ∧ Eh b=false ∧ E4 b=false):=by
 simp only [Gb,List.mem_cons,List.not_mem_nil,or_false] at h
 rcases h with rfl | rfl | rfl | rfl | rfl | rfl | rfl | rfl | rfl | rfl | rfl | rfl | rfl | rfl | rfl | rfl <;> rcases hc with rfl | rfl | rfl <;> exact ⟨rfl,rfl,_,_,rfl,rfl,rfl,rfl⟩
theorem aK {b:UInt8} (h:G0 b=true):E4 b=false ∧ b ≠ 45:=by
 have h':∀ x:Fin 256,G0 ⟨⟨x⟩⟩=true → E4 ⟨⟨x⟩⟩=false ∧ (⟨⟨x⟩⟩:UInt8) ≠ 45:=by decide
 exact h' ⟨b.toNat,b.toNat_lt⟩ h
theorem Zg {b:UInt8} (h:Eh b=true):E4 b=false ∧ b ≠ 45 ∧ G0 b=false:=by
 have h':∀ x:Fin 256,Eh ⟨⟨x⟩⟩=true → E4 ⟨⟨x⟩⟩=false ∧ (⟨⟨x⟩⟩:UInt8) ≠ 45 ∧ G0 ⟨⟨x⟩⟩=false:=by decide
 exact h' ⟨b.toNat,b.toNat_lt⟩ h
theorem xS {c:UInt8} (hc:c=32 ∨ c=10 ∨ c=9):Es c=false ∧ Eh c=false ∧ E4 c=true:=by
 rcases hc with rfl | rfl | rfl <;> exact ⟨rfl,rfl,rfl⟩
theorem Ui {b:UInt8} {r:List UInt8} (h:b ≠ 45):Ey [45,45] (b :: r)=false:=by
 unfold Ey
 rw [decide_eq_false_iff_not]
 intro e
 cases r with
 | nil=>simp at e
 | cons x r=>simp at e; exact h e.1
theorem Qe {b:UInt8} {r:List UInt8} (h:E4 b=false):cnt E4 (b :: r)=0:=by unfold cnt; rw [h]; rfl
theorem Oe {c:UInt8} (hc:c=32 ∨ c=10 ∨ c=9) (N:Nat) (R:List UInt8):Im (N + 1) (c :: R)=1 + Im (N + 1) R:=by
 obtain ⟨_,_,c3⟩:=xS hc
 have e:cnt E4 (c :: R)=cnt E4 R + 1:=mQ c3
 rw [Vz,Vz,e]
 simp only [List.drop_succ_cons,Nat.add_right_comm _ 1]
 split <;> omega
theorem P3 {R:List UInt8} (h1:cnt E4 R=0) (h2:Ey [45,45] R=false) (N:Nat):Im N R=0:=by
 cases N with
 | zero=>rfl
 | succ N=>rw [Vz,h1]; simp only [List.drop_zero]; rw [h2]; rfl
def laid (f:Nat → List UInt8):Nat → List Tk → List UInt8
 | _,[]=>[]
 | k,t :: r=>t.text ++ (f k ++ laid f (k + 1) r)
inductive FromLex:List Tk → Prop where
 | last (t:Tk) (h:t.kind=5 ∧ t.text=[] ∧ t.num=0):FromLex [t]
 | cons (t:Tk) (r:List Tk) (l:List UInt8) (a:Nat) (h:Ja l a=some (t,0)) (hr:FromLex r):FromLex (t :: r)
inductive LikeTs:List Tk → List Tk → Prop where
 | nil:LikeTs [] []
 | cons (t u:Tk) (r s:List Tk) (h:LikeT t u) (h2:LikeTs r s):LikeTs (t :: r) (u :: s)
theorem LikeTs.s:∀ {ts us:List Tk},LikeTs ts us → LikeS ts us
 | _,_,.nil=>⟨rfl,fun i=>⟨rfl,rfl,rfl⟩⟩
 | _,_,.cons t u r s h h2=>⟨by simp [h2.s.len],fun i=>by
  cases i with
  | zero=>exact h
  | succ i=>exact h2.s.at_ i⟩
section
variable {f:Nat → List UInt8} (hf:∀ k,f k ∈ Ul) (T:List UInt8)
include hf
end
end Go.Ax
