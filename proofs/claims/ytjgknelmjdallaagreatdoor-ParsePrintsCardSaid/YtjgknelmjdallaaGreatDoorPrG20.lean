/- Pm -/
import Derived.Test.YtjgknelmjdallaaGreatDoorPrG19
import Derived.Test.YtjgknelmjdallaaGreatDoorPrG12
set_option linter.unusedVariables false
set_option linter.unusedSimpArgs false
noncomputable section
namespace Go.Ax
open Go.RowKit Go.Proofs
set_option maxRecDepth 100000
theorem fnOk90:∃ fn,E1.F 90=some fn:=Option.isSome_iff_exists.1 (by kernel_rfl)
def Lo (ts:List Tk) (n j:Nat):PR (List PD):=if (tk ts j).text ∈ [[118,97,114]] then (Fi ts (j + 1)).bind fun x m=>Iu ts n [x] m else .ok [] j
def Jg (ts:List Tk) (n i:Nat):PR PN:=(C7 ts [[110,111,100,101]] i).bind fun _ j=>(Fk ts 1 j).bind fun t j=>(Iw ts (He ts) n j).bind fun ins j=>(C7 ts [[114,101,116,117,114,110,115]] j).bind fun _ j=>(Iw ts (He ts) n j).bind fun outs j=>(Lo ts n j).bind fun vars j=>(C7 ts [[108,101,116]] j).bind fun _ j=>(Ny ts n n [] j).bind fun qs j=>(C7 ts [[116,101,108]] j).bind fun _ j=>.ok ⟨t.text,t.pos,ins,outs,vars,qs⟩ j
def Sb (v:AV) (nd:PN):Prop:=∃ a b c d es,v=.agg (Ij nd.name nd.pos a b c d) ∧ Ik 6 Gt a nd.ins ∧ Ik 6 Gt b nd.outs ∧ Ik 6 Gt c nd.vars ∧ ((d=.nils ∧ es=[]) ∨ ∃ tok,d=.sl tok 0 8 es) ∧ EqRows es nd.eqs
theorem b49 (s:List UInt8) (a:Nat):Hl Tryz.prog 49 [(0,.v (.string ⟨⟨s⟩⟩)),(1,.v (.int .i64 (a:Int)))]=some (.agg (Ij s a .nils .nils .nils .nils)):=by kernel_rfl
theorem fa49_2 (b:Nat):Cy Tryz.prog 49 (.ptr b 0) 2=some (.ptr b 2):=by kernel_rfl
theorem fa49_3 (b:Nat):Cy Tryz.prog 49 (.ptr b 0) 3=some (.ptr b 3):=by kernel_rfl
theorem fa49_4 (b:Nat):Cy Tryz.prog 49 (.ptr b 0) 4=some (.ptr b 4):=by kernel_rfl
theorem s46:Fq Tryz.prog 46=some 1:=by kernel_rfl
theorem Oi {v:AV} {l:List PD} (h:Ik 6 Gt v l):v.noTup=true ∧ v.cells=[v]:=by
 rcases h with ⟨rfl,_⟩ | ⟨tok,off,rfl⟩ <;> exact ⟨rfl,rfl⟩
section
variable {S:St} {id:Nat} {nm:List UInt8} {pos:Nat} {a b c d v:AV} {l:List PD} (h:S.mem.get id=some (.box (Ij nm pos a b c d))) (hv:Ik 6 Gt v l)
include h hv
theorem st49_2:C9 Tryz.prog S 46 (.ptr id 2) v=some (S.put id (Ij nm pos v b c d)):=by
 simp [C9,h,s46,(Oi hv).1,(Oi hv).2,St.put,Ij]
theorem st49_3:C9 Tryz.prog S 46 (.ptr id 3) v=some (S.put id (Ij nm pos a v c d)):=by
 simp [C9,h,s46,(Oi hv).1,(Oi hv).2,St.put,Ij]
theorem st49_4:C9 Tryz.prog S 46 (.ptr id 4) v=some (S.put id (Ij nm pos a b v d)):=by
 simp [C9,h,s46,(Oi hv).1,(Oi hv).2,St.put,Ij]
end
section
variable {p k:Nat} {ts:List Tk} (hts:TokOk ts)
include hts
set_option maxHeartbeats 64000000 in
theorem node_p (h2p:2 ≤ p) (n:Nat) (hn:n ≤ 1000000) (S:St) (i:Nat) (h:Cur S p k ts i) (hp:p < S.next) (hi:i < ts.length) (ho:Jg ts n i ≠ .out):WC E1 90 [.ptr p 0] S (Nt p k ts S Sb (Jg ts n i)):=by
 have eP:Jg ts n i=(C7 ts [[110,111,100,101]] i).bind fun _ j=>(Fk ts 1 j).bind fun t j=>(Iw ts (He ts) n j).bind fun ins j=>(C7 ts [[114,101,116,117,114,110,115]] j).bind fun _ j=>(Iw ts (He ts) n j).bind fun outs j=>(Lo ts n j).bind fun vars j=>(C7 ts [[108,101,116]] j).bind fun _ j=>(Ny ts n n [] j).bind fun qs j=>(C7 ts [[116,101,108]] j).bind fun _ j=>.ok ⟨t.text,t.pos,ins,outs,vars,qs⟩ j:=rfl
 rw [eP] at ho ⊢
 clear eP
 refine Dt Tryz.f90 (by kernel_rfl) (by kernel_rfl) (by kernel_rfl) (show (_:Nat) ≤ _ from by show (_:Nat) ≤ _; simp [Tryz.f90]) ?_
 obtain ⟨fn1,hf1⟩:=Mn
 obtain ⟨fn2,hf2⟩:=Ob
 obtain ⟨fn3,hf3⟩:=fnOk125
 obtain ⟨fn4,hf4⟩:=I9
 obtain ⟨fn5,hf5⟩:=fnOk127
 obtain ⟨fn6,hf6⟩:=Se
 obtain ⟨x1,c1,br,hp1⟩:=oS rK h hp
 have y2:=x1
 simp only [A8,Bj,A6,Bl,A9,A7,Bb,A5,A4,Bd,Bc,B7,A0,A1,Bm,Bz,ofOpt,ofOptS,Be,Bv,Bs,Nat.reduceLT,Nat.reduceEqDiff,Aa,Ab,Ac,Ae,Aj,Ak,Tryz.f90,fp0,C2,hf1,alo49]
 refine WC.mono (Hh c1 hp1 hi hts 1 0 [[110,111,100,101]] (by decide) (by decide)) ?_
 cases hX3:C7 ts [[110,111,100,101]] i with
 | out=>exact absurd hX3 (Fm _ _ _)
 | bad a e =>
  rintro _ ⟨S3,rfl,x3⟩
  simp only [Bu,B1,Bt]
  exact ⟨_,rfl,y2.trans x3⟩
 | ok a3 j3 =>
  rw [hX3] at ho; rw [Cw] at ho ⊢
  rintro _ ⟨_,S3,rfl,rfl,x3,c3,hi3⟩
  have hp3:p < S3.next:=Nat.lt_of_lt_of_le hp1 x3.1
  have y4:=(y2).trans x3
  have br_4:=br.keep x3
  simp only [A8,Bj,A6,Bl,A9,A7,Bb,A5,Bf,A4,Bd,Bc,A0,A1,Bm,Bz,ofOpt,Be,Bv,Nat.reduceLT,Nat.reduceEqDiff,Aa,Ab,Ac,Aj,Ak,fp0,hf2]
  refine WC.mono (Q4 c3 hp3 hi3 hts 1 (by decide)) ?_
  cases hX5:Fk ts 1 j3 with
  | out=>exact absurd hX5 (Ki _ _ _)
  | bad a e =>
   rintro _ ⟨S5,rfl,x5⟩
   simp only [Bu,B1,Bt]
   exact ⟨_,rfl,y4.trans x5⟩
  | ok a5 j5 =>
   rw [hX5] at ho; rw [Cw] at ho ⊢
   rintro _ ⟨_,S5,rfl,rfl,x5,c5,hi5⟩
   have hp5:p < S5.next:=Nat.lt_of_lt_of_le hp3 x5.1
   have y6:=(y4).trans x5
   have br_6:=br_4.keep x5
   obtain ⟨S7,q7,x7,c7,bt,hp7⟩:=Ej c5 hp5 a5
   have y8:=(y6).trans x7
   have br_8:=br_6.keep x7
   have lp:=bt.pos
   have lt:=bt.text
   obtain ⟨S9,q9,x9,c9,bd,hp9⟩:=zD zR rK rfl c7 hp7 (xs:=Ij a5.text a5.pos .nils .nils .nils .nils) rfl
   have y10:=(y8).trans x9
   have br_10:=br_8.keep x9
   have bt_10:=bt.keep x9
   have hne:S7.next ≠ S.next:=by have:=br_8.lt; omega
   have ne11:=Fe ho
   simp only [A8,Bj,A6,Bl,A9,A7,Bh,Bb,Bk,A5,Bf,A4,Bd,Bc,A0,A1,Bm,Bz,ofOpt,ofOptS,Bv,Bs,Nat.reduceLT,Nat.reduceEqDiff,Aa,Ab,Ac,Aj,Ak,Fv,hf3,alo49,q7,fd1,fa2,lp,lt,b49,q9]
   refine WC.mono (Yn hts h2p 126 (He ts) (We ts) lQ (vA hts) n hn _ _ c9 hp9 hi5 ne11) ?_
   cases hX12:Iw ts (He ts) n j5 with
   | out=>exact absurd hX12 ne11
   | bad a e =>
    rintro _ ⟨S12,rfl,x12⟩
    simp only [Bu,B1,Bt]
    exact ⟨_,rfl,y10.trans x12⟩
   | ok l12 j12 =>
    rw [hX12] at ho; rw [Cw] at ho ⊢
    rintro _ ⟨va,S12,rfl,hva,x12,c12,hi12⟩
    have hp12:p < S12.next:=Nat.lt_of_lt_of_le hp9 x12.1
    have y13:=(y10).trans x12
    have br_13:=br_10.keep x12
    have bd_13:=bd.keep x12
    have st701:=st49_2 bd_13.get hva
    obtain ⟨px701,pc701,pb701,pr701⟩:=Tn (ys:=Ij a5.text a5.pos va .nils .nils .nils) y13 y8.1 bd_13 c12 br_13 hne
    simp only [A8,Bj,A6,Bl,A9,A7,Bh,Bb,Bk,A5,Bf,A4,Bd,Bc,A0,A1,Bm,Bz,ofOpt,Be,Bv,Bs,Nat.reduceLT,Nat.reduceEqDiff,Aa,Ab,Ac,Aj,Ak,fp0,C2,hf1,fa49_2,st701]
    refine WC.mono (Hh pc701 hp12 hi12 hts 1 0 [[114,101,116,117,114,110,115]] (by decide) (by decide)) ?_
    cases hX14:C7 ts [[114,101,116,117,114,110,115]] j12 with
    | out=>exact absurd hX14 (Fm _ _ _)
    | bad a e =>
     rintro _ ⟨S14,rfl,x14⟩
     simp only [Bu,B1,Bt]
     exact ⟨_,rfl,px701.trans x14⟩
    | ok a14 j14 =>
     rw [hX14] at ho; rw [Cw] at ho ⊢
     rintro _ ⟨_,S14,rfl,rfl,x14,c14,hi14⟩
     have hp14:p < S14.next:=Nat.lt_of_lt_of_le hp12 x14.1
     have y15:=(px701).trans x14
     have bd_15:=pb701.keep x14
     have br_15:=pr701.keep x14
     have ne16:=Fe ho
     simp only [A8,Bj,A6,Bl,A9,A7,Bb,A5,Bf,A4,Bd,Bc,A0,A1,Bm,Bz,ofOpt,Nat.reduceLT,Nat.reduceEqDiff,Aa,Ab,Ac,Aj,Ak,hf3]
     refine WC.mono (Yn hts h2p 126 (He ts) (We ts) lQ (vA hts) n hn _ _ c14 hp14 hi14 ne16) ?_
     cases hX17:Iw ts (He ts) n j14 with
     | out=>exact absurd hX17 ne16
     | bad a e =>
      rintro _ ⟨S17,rfl,x17⟩
      simp only [Bu,B1,Bt]
      exact ⟨_,rfl,y15.trans x17⟩
     | ok l17 j17 =>
      rw [hX17] at ho; rw [Cw] at ho ⊢
      rintro _ ⟨vb,S17,rfl,hvb,x17,c17,hi17⟩
      have hp17:p < S17.next:=Nat.lt_of_lt_of_le hp14 x17.1
      have y18:=(y15).trans x17
      have bd_18:=bd_15.keep x17
      have br_18:=br_15.keep x17
      have st702:=st49_3 bd_18.get hvb
      obtain ⟨px702,pc702,pb702,pr702⟩:=Tn (ys:=Ij a5.text a5.pos va vb .nils .nils) y18 y8.1 bd_18 c17 br_18 hne
      have eV:Lo ts n j17=if (tk ts j17).text ∈ [[118,97,114]] then (Fi ts (j17 + 1)).bind fun x m=>Iu ts n [x] m else .ok [] j17:=rfl
      rw [eV] at ho ⊢
      clear eV
      by_cases hm:(tk ts j17).text ∈ [[118,97,114]]
      ·rw [if_pos hm] at ho ⊢
       simp only [A8,Bj,A6,Bl,A9,A7,Bh,Bb,Bk,A5,Bf,A4,Bd,Bc,A0,A1,Bm,Bz,ofOpt,Be,Bv,Bs,Nat.reduceLT,Nat.reduceEqDiff,Aa,Ab,Ac,Aj,Ak,fp0,C2,hf4,fa49_3,st702]
       refine WC.mono (Js pc702 hp17 hi17 hts 1 0 [[118,97,114]] (by decide) (by decide) hm) ?_
       rintro _ ⟨S19,rfl,x19,c19,hi19,hp19⟩
       have y20:=(px702).trans x19
       have bd_20:=pb702.keep x19
       have br_20:=pr702.keep x19
       obtain ⟨S21,q21,x21,c21,bv,hp21⟩:=Ej c19 hp19 (tk ts j17)
       have y22:=(y20).trans x21
       have bd_22:=bd_20.keep x21
       have br_22:=br_20.keep x21
       have ne23:=Fe ho
       simp only [Br,A8,Bj,Bp,A6,Bl,A9,A7,Bh,Bb,Bk,A5,Bf,Cp,A4,Bd,Bc,A0,A1,Bm,Bz,ofOpt,ofOptS,Be,Bv,Bs,Nat.reduceLT,Nat.reduceEqDiff,Aa,Ab,Ac,Ag,Ah,Aj,Ak,Fv,fp0,B8,C2,hf1,hf5,q21]
       refine WC.mono (vars_p hts h2p n hn _ _ c21 hp21 hi19 ne23) ?_
       cases hX24:(Fi ts (j17 + 1)).bind fun x m=>Iu ts n [x] m with
       | out=>exact absurd hX24 ne23
       | bad a e =>
        rintro _ ⟨S24,rfl,x24⟩
        simp only [Bu,B1,Bt]
        exact ⟨_,rfl,y22.trans x24⟩
       | ok l24 j24 =>
        rw [hX24] at ho; rw [Cw] at ho ⊢
        rintro _ ⟨vc,S24,rfl,hvc,x24,c24,hi24⟩
        have hp24:p < S24.next:=Nat.lt_of_lt_of_le hp21 x24.1
        have y25:=(y22).trans x24
        have bd_25:=bd_22.keep x24
        have br_25:=br_22.keep x24
        have st703:=st49_4 bd_25.get hvc
        obtain ⟨px703,pc703,pb703,pr703⟩:=Tn (ys:=Ij a5.text a5.pos va vb vc .nils) y25 y8.1 bd_25 c24 br_25 hne
        simp only [A8,Bj,A6,Bl,A9,A7,Bh,Bb,Bk,A5,Bf,A4,Bd,Bc,A0,A1,Bm,Bz,ofOpt,Be,Bv,Bs,Nat.reduceLT,Nat.reduceEqDiff,Aa,Ab,Ac,Aj,Ak,fp0,C2,hf1,fa49_4,st703]
        refine WC.mono (Hh pc703 hp24 hi24 hts 1 0 [[108,101,116]] (by decide) (by decide)) ?_
        cases hX26:C7 ts [[108,101,116]] j24 with
        | out=>exact absurd hX26 (Fm _ _ _)
        | bad a e =>
         rintro _ ⟨S26,rfl,x26⟩
         simp only [Bu,B1,Bt]
         exact ⟨_,rfl,px703.trans x26⟩
        | ok a26 j26 =>
         rw [hX26] at ho; rw [Cw] at ho ⊢
         rintro _ ⟨_,S26,rfl,rfl,x26,c26,hi26⟩
         have hp26:p < S26.next:=Nat.lt_of_lt_of_le hp24 x26.1
         have y27:=(px703).trans x26
         have bd_27:=pb703.keep x26
         have br_27:=pr703.keep x26
         simp only [Bj,B3,D3,A6,Bl,A5,Bf,Nat.reduceLT,Ac]
         have neE:=Fe ho
         refine WX.mono (cP hts h2p n hn S hp S.next S7.next (Nat.le_refl _) y8.1 hne a5.text a5.pos va vb vc n [] j26 _ _ .nils [] neE (by simp; omega) (by simp [T.get_set]) (by simp [T.get_set]) (by simp [T.get_set]) c26 hp26 hi26 br_27 bd_27 (.inl ⟨rfl,rfl⟩) .nil y27) ?_
         rintro _ (⟨t9,S9,d9,es9,l9,i9,rfl,g0,g2,g4,hr9,hb9,hq9,hf9,x9,c9,hi9,hp9,e9⟩ | ⟨t9,S9,a9,e9,rfl,x9,q9⟩)
         ·rw [e9] at ho ⊢
          rw [Cw] at ho ⊢
          simp only [A8,Bj,A6,Cg,Ch,A9,A7,Bb,A5,A4,Bd,Bc,A0,Bm,Bz,ofOpt,Be,Bv,Bs,Nat.reduceLT,Nat.reduceEqDiff,Aa,Ab,Ac,Aj,Ak,fp0,C2,hf1,g0]
          refine WC.mono (Hh c9 hp9 hi9 hts 1 0 [[116,101,108]] (by decide) (by decide)) ?_
          cases hX29:C7 ts [[116,101,108]] i9 with
          | out=>exact absurd hX29 (Fm _ _ _)
          | bad a e =>
           rintro _ ⟨S29,rfl,x29⟩
           simp only [Bu,B1,Bt]
           exact ⟨_,rfl,x9.trans x29⟩
          | ok a29 j29 =>
           rw [hX29] at ho; rw [Cw] at ho ⊢
           rintro _ ⟨_,S29,rfl,rfl,x29,c29,hi29⟩
           have hp29:p < S29.next:=Nat.lt_of_lt_of_le hp9 x29.1
           have y30:=(x9).trans x29
           have br_30:=hr9.keep x29
           have bd_30:=hb9.keep x29
           have lz:=ldG ag49 zR bd_30.get rfl
           obtain ⟨g31,h31,gx,gc⟩:=V3 ag49 zR (S0:=S) c29 br_30 rfl (Nat.le_refl _) y30 (xs:=Ij a5.text a5.pos va vb vc d9) rfl
           simp only [A8,Bj,By,A6,Bl,A9,A7,Bh,Bk,A5,Bf,A4,Bd,Bc,A0,ofOpt,Bv,Bi,B0,Bg,Cd,Nat.reduceLT,Nat.reduceEqDiff,Aa,Ab,Ac,g2,g4,lz,g31,h31]
           exact ⟨_,_,rfl,⟨va,vb,vc,d9,es9,rfl,hva,hvb,hvc,hq9.imp id (fun ⟨tok,h,_⟩=>⟨tok,h⟩),hf9⟩,gx,gc,hi29⟩
         ·rw [q9] at ho ⊢
          simp only [Bu,Cr,Bt]
          exact ⟨_,rfl,x9⟩
      ·rw [if_neg hm] at ho ⊢
       rw [Cw] at ho ⊢
       simp only [A8,Bj,A6,Bl,A9,A7,Bh,Bb,Bk,A5,Bf,A4,Bd,Bc,A0,A1,Bm,Bz,ofOpt,Be,Bv,Bs,Nat.reduceLT,Nat.reduceEqDiff,Aa,Ab,Ac,Aj,Ak,fp0,C2,hf4,fa49_3,st702]
       refine WC.mono (Kn pc702 hp17 hi17 hts 1 0 [[118,97,114]] (by decide) hm) ?_
       rintro _ ⟨S32,rfl,x32,c32,hi32,hp32⟩
       have y33:=(px702).trans x32
       have bd_33:=pb702.keep x32
       have br_33:=pr702.keep x32
       obtain ⟨S34,q34,x34,c34,bv,hp34⟩:=Ej c32 hp32 C1
       have y35:=(y33).trans x34
       have bd_35:=bd_33.keep x34
       have br_35:=br_33.keep x34
       simp only [Br,A8,Bj,Bp,A6,Bl,A9,A7,Bh,Bb,Bk,A5,Bf,Cc,A4,Bd,Bc,A0,A1,Bm,Bz,ofOpt,ofOptS,Be,Bv,Bs,Nat.reduceLT,Nat.reduceEqDiff,Aa,Ab,Ac,Ag,Ah,Aj,Ak,Fv,fp0,B8,C2,hf1,hf5,q34]
       refine WC.mono (Hh c34 hp34 hi32 hts 1 0 [[108,101,116]] (by decide) (by decide)) ?_
       cases hX36:C7 ts [[108,101,116]] j17 with
       | out=>exact absurd hX36 (Fm _ _ _)
       | bad a e =>
        rintro _ ⟨S36,rfl,x36⟩
        simp only [Bu,B1,Bt]
        exact ⟨_,rfl,y35.trans x36⟩
       | ok a36 j36 =>
        rw [hX36] at ho; rw [Cw] at ho ⊢
        rintro _ ⟨_,S36,rfl,rfl,x36,c36,hi36⟩
        have hp36:p < S36.next:=Nat.lt_of_lt_of_le hp34 x36.1
        have y37:=(y35).trans x36
        have bd_37:=bd_35.keep x36
        have br_37:=br_35.keep x36
        simp only [Bj,B3,D3,A6,Bl,A5,Bf,Nat.reduceLT,Ac]
        have neE:=Fe ho
        refine WX.mono (cP hts h2p n hn S hp S.next S7.next (Nat.le_refl _) y8.1 hne a5.text a5.pos va vb .nils n [] j36 _ _ .nils [] neE (by simp; omega) (by simp [T.get_set]) (by simp [T.get_set]) (by simp [T.get_set]) c36 hp36 hi36 br_37 bd_37 (.inl ⟨rfl,rfl⟩) .nil y37) ?_
        rintro _ (⟨t9,S9,d9,es9,l9,i9,rfl,g0,g2,g4,hr9,hb9,hq9,hf9,x9,c9,hi9,hp9,e9⟩ | ⟨t9,S9,a9,e9,rfl,x9,q9⟩)
        ·rw [e9] at ho ⊢
         rw [Cw] at ho ⊢
         simp only [A8,Bj,A6,Cg,Ch,A9,A7,Bb,A5,A4,Bd,Bc,A0,Bm,Bz,ofOpt,Be,Bv,Bs,Nat.reduceLT,Nat.reduceEqDiff,Aa,Ab,Ac,Aj,Ak,fp0,C2,hf1,g0]
         refine WC.mono (Hh c9 hp9 hi9 hts 1 0 [[116,101,108]] (by decide) (by decide)) ?_
         cases hX39:C7 ts [[116,101,108]] i9 with
         | out=>exact absurd hX39 (Fm _ _ _)
         | bad a e =>
          rintro _ ⟨S39,rfl,x39⟩
          simp only [Bu,B1,Bt]
          exact ⟨_,rfl,x9.trans x39⟩
         | ok a39 j39 =>
          rw [hX39] at ho; rw [Cw] at ho ⊢
          rintro _ ⟨_,S39,rfl,rfl,x39,c39,hi39⟩
          have hp39:p < S39.next:=Nat.lt_of_lt_of_le hp9 x39.1
          have y40:=(x9).trans x39
          have br_40:=hr9.keep x39
          have bd_40:=hb9.keep x39
          have lz:=ldG ag49 zR bd_40.get rfl
          obtain ⟨g41,h41,gx,gc⟩:=V3 ag49 zR (S0:=S) c39 br_40 rfl (Nat.le_refl _) y40 (xs:=Ij a5.text a5.pos va vb .nils d9) rfl
          simp only [A8,Bj,By,A6,Bl,A9,A7,Bh,Bk,A5,Bf,A4,Bd,Bc,A0,ofOpt,Bv,Bi,B0,Bg,Cd,Nat.reduceLT,Nat.reduceEqDiff,Aa,Ab,Ac,g2,g4,lz,g41,h41]
          exact ⟨_,_,rfl,⟨va,vb,.nils,d9,es9,rfl,hva,hvb,.inl ⟨rfl,rfl⟩,hq9.imp id (fun ⟨tok,h,_⟩=>⟨tok,h⟩),hf9⟩,gx,gc,hi39⟩
        ·rw [q9] at ho ⊢
         simp only [Bu,Cr,Bt]
         exact ⟨_,rfl,x9⟩
end
end Go.Ax
noncomputable section
namespace Go.Ax
open Go.RowKit Go.Proofs
set_option maxRecDepth 100000
inductive NodeRows:List AV → List PN → Prop where
 | nil:NodeRows [] []
 | cons (a:AV) (q:PN) (r:List AV) (l:List PN) (h:Sb a q) (h2:NodeRows r l):NodeRows (a :: r) (q :: l)
theorem NodeRows.app:∀ {es:List AV} {l:List PN} {a:AV} {e:PN},NodeRows es l → Sb a e → NodeRows (es ++ [a]) (l ++ [e]):=fun {es l a e} h h2=>by
 induction es generalizing l with
 | nil=>cases h; exact .cons _ _ _ _ h2 .nil
 | cons x r ih=>cases h with
  | cons _ e2 _ l2 h3 h4=>exact .cons _ _ _ _ h3 (ih h4)
theorem NodeRows.len:∀ {es:List AV} {l:List PN},NodeRows es l → es.length=l.length:=fun {es l} h=>by
 induction es generalizing l with
 | nil=>cases h; rfl
 | cons a r ih=>cases h with
  | cons _ e _ l2 h h2=>simp [ih h2]
theorem i49:(Tryz.prog.info? 49).map (fun i=>(i.zero,i.size,i.bytes))=some (some (.agg #[.string ⟨#[]⟩,.int .i64 0,.slice none 0 0,.slice none 0 0,.slice none 0 0,.slice none 0 0]),6,120):=by kernel_rfl
theorem el40:Ix Tryz.prog 40=some (none,49):=by kernel_rfl
theorem un40:Tryz.prog.underlying 40=some (.slice 49):=by kernel_rfl
theorem zr49:L9 Tryz.prog 49=some (.agg rK):=by kernel_rfl
theorem wN (xs:List AV) (hx:xs.length=6):Dq Tryz.prog 40 1 [(0,.agg xs)]=some (.sl 1 0 6 [.agg xs]):=by
 simp [Dq,el40,zR,zr49,Cm,Cn,hx]
theorem app40 (S:St) (a b:AV):Hk E1 S 40 40 a b=Fc Tryz.prog S 40 40 a b:=rfl
theorem push40 {lo:Nat} {S:St} {tok:Nat} {es:List AV} (h:Sw 6 lo S tok es) (hn:2 ≤ S.next) (hlo:lo ≤ S.next) (xs:List AV) (hx:xs.length=6) (hl:es.length ≤ 2000000) :
  ∃ S',Hk E1 S 40 40 (.sl tok 0 6 es) (.sl 1 0 6 [.agg xs])=some (.sl S.next 0 6 (es ++ [.agg xs]),S') ∧ Sw 6 lo S' S.next (es ++ [.agg xs]) ∧ S.next ≤ S'.next ∧ ∀ id,id < lo → S'.mem.get id=S.mem.get id:=by
 obtain ⟨i,hi,hz0,hz1,hz2⟩:=G2 i49
 have hb1:(es.length + 1) * 120 ≤ 140737488355328:=by omega
 have hb2:es.length + 1 ≤ 9223372036854775807:=by omega
 rw [app40]
 rcases h with rfl | ⟨h1,h2,h3,h5⟩
 ·refine ⟨S.grown 1 ((es ++ [AV.agg xs]).length * 6),?_,.inr ⟨hn,hlo,Nat.lt_succ_self _,?_⟩,Nat.le_succ _,fun id hid=>?_⟩
  ·simp [Fc,el40,hi,hz0,hz1,hz2,L6,un40,Value.cells,N4,hb1,hb2]
  ·show (S.mem.set S.next _).get S.next=_
   rw [T.get_set,if_pos rfl]
  ·show (S.mem.set S.next _).get id=_
   rw [T.get_set,if_neg (by omega)]
 ·obtain ⟨k,rfl⟩:∃ k,tok=k + 2:=⟨tok - 2,by omega⟩
  refine ⟨S.grown (k + 2) ((es ++ [AV.agg xs]).length * 6),?_,.inr ⟨hn,hlo,Nat.lt_succ_self _,?_⟩,Nat.le_succ _,fun id hid=>?_⟩
  ·simp [Fc,el40,hi,hz0,hz1,hz2,L6,un40,Value.cells,N4,h5,hb1,hb2]
  ·show ((S.mem.set (k + 2) none).set S.next _).get S.next=_
   rw [T.get_set,if_pos rfl]
  ·show ((S.mem.set (k + 2) none).set S.next _).get id=_
   rw [T.get_set,if_neg (by omega),T.get_set,if_neg (by omega)]
def Jt (ts:List Tk) (N:Nat):Nat → List PN → Nat → PR (List PN)
 | 0,_,_=>.out
 | n + 1,l,i=>if (tk ts i).text ∈ [[110,111,100,101]] then (Jg ts N i).bind fun q j=>Jt ts N n (l ++ [q]) j else .ok l i
def Eh (ts:List Tk) (n i:Nat):PR (List PN):=(Jg ts n i).bind fun x j=>Jt ts n n [x] j
def Nx (v:AV) (l:List PN):Prop:=∃ tok off es,v=.sl tok off 6 es ∧ NodeRows es l
noncomputable def bB:Code:=match Tryz.f58.body with
 | some (.seq _ (.seq _ (.seq (.block _ (.loop c)) _)))=>c
 | _=>.skip
def LoopProg (p k:Nat) (ts:List Tk) (S0:St) (x:PR (List PN)) (r:O):Prop :=
 (∃ t' S' tok es l i',r=.out (.exit 0) ⟨t',[]⟩ S' ∧ t'.get 3=some (.sl tok 0 6 es) ∧ NodeRows es l ∧ Eb p S0 S' ∧ Cur S' p k ts i' ∧ i' < ts.length ∧ p < S'.next ∧ x=.ok l i') ∨
 (∃ t' S' a e,r=.out (.pan (V6 a e)) ⟨t',[]⟩ S' ∧ Eb p S0 S' ∧ x=.bad a e)
section
variable {p k:Nat} {ts:List Tk} (hts:TokOk ts)
include hts
set_option maxHeartbeats 16000000 in
theorem gB (h2p:2 ≤ p) (N:Nat) (hN:N ≤ 1000000) (S0:St) (hp0:p < S0.next):∀ (n:Nat) (l:List PN) (i:Nat) (t:T AV) (S:St) (tok:Nat) (es:List AV),Jt ts N n l i ≠ .out → n + l.length ≤ 2000000 →
  t.get 0=some (.ptr p 0) → t.get 3=some (.sl tok 0 6 es) → Cur S p k ts i → p < S.next → i < ts.length → Sw 6 S0.next S tok es → NodeRows es l → Eb p S0 S →
  WX E1 18 (.loop bB) ⟨t,[]⟩ S (LoopProg p k ts S0 (Jt ts N n l i))
 | 0,l,i,t,S,tok,es,ho,hnl,h0,h3,h,hp,hi,hr,hf,hx=>absurd rfl ho
 | n + 1,l,i,t,S,tok,es,ho,hnl,h0,h3,h,hp,hi,hr,hf,hx=>by
  refine E9 (Em ?_)
  obtain ⟨fn1,hf1⟩:=Se
  obtain ⟨fn2,hf2⟩:=fnOk90
  have eP:Jt ts N (n + 1) l i=if (tk ts i).text ∈ [[110,111,100,101]] then (Jg ts N i).bind fun q j=>Jt ts N n (l ++ [q]) j else .ok l i:=rfl
  rw [eP] at ho ⊢
  clear eP
  have e0:=Km hi
  simp only [A8,Bj,A9,A7,Bb,A5,A4,Bd,Bc,A0,Bm,Bz,ofOpt,Be,Bv,Bs,Nat.reduceLT,Nat.reduceEqDiff,Aa,Ab,Ac,Aj,Ak,Tryz.f58,fp0,C2,hf1,h0,bB]
  refine WC.mono (On _ p k ts i h hp hi 1 0 [[110,111,100,101]] (by decide)) ?_
  rintro _ ⟨S1,rfl,k1⟩
  have x1:=k1.x p
  have c1:=h.keep hp k1
  have hp1:p < S1.next:=Nat.lt_of_lt_of_le hp x1.1
  have y2:=(hx).trans x1
  rw [← e0]
  by_cases hm:(tk ts i).text ∈ [[110,111,100,101]]
  ·rw [if_pos hm] at ho ⊢
   rw [decide_eq_true hm]
   simp only [B9,Br,A8,Bp,B3,Dk,A6,Cg,Bl,A9,A7,Bb,A5,Bf,Cp,A4,Bd,Bc,A0,Bm,Bz,ofOpt,Nat.reduceLT,Nat.reduceEqDiff,Aa,Ab,Ac,Aj,Ak,hf2,h0,h3]
   have ne1:=Fe ho
   refine WC.mono (node_p hts h2p N hN _ _ c1 hp1 hi ne1) ?_
   cases hX3:Jg ts N i with
   | out=>exact absurd hX3 ne1
   | bad a e =>
    rintro _ ⟨S3,rfl,x3⟩
    simp only [C4,Cr,B1]
    exact .inr ⟨_,_,_,_,rfl,y2.trans x3,rfl⟩
   | ok a3 j3 =>
    rw [hX3] at ho; rw [Cw] at ho ⊢
    rintro _ ⟨v9,S3,rfl,hv9,x3,c3,hi3⟩
    obtain ⟨xs,rfl,hxl⟩:∃ xs,v9=.agg xs ∧ xs.length=6:=by obtain ⟨a,b,c,d,es,e,_⟩:=hv9; exact ⟨_,e,rfl⟩
    have hp3:p < S3.next:=Nat.lt_of_lt_of_le hp1 x3.1
    have y4:=(y2).trans x3
    have rw1:=wN xs hxl
    have hr2:Sw 6 S0.next S3 tok es:=hr.keep ((x1).trans x3) hp0
    have hle:=y4.1
    obtain ⟨S5,a5,r5,n5,k5⟩:=push40 hr2 (by omega) hle xs hxl (by rw [hf.len]; omega)
    have z9:Eb p S0 S5:=⟨Nat.le_trans hle n5,fun id hid hn=>(k5 id hid).trans (y4.2 id hid hn)⟩
    have c9:Cur S5 p k ts j3:=(k5 p hp0).trans c3
    simp only [B4,Bw,Bl,A9,A7,A5,Bf,A4,Bd,Bc,A0,Bm,ofOpt,ofOptS,Bv,Bs,Nat.reduceLT,Nat.reduceEqDiff,Aa,Ab,Ac,rw1,a5]
    exact gB h2p N hN S0 hp0 n _ _ _ _ _ _ ho (by rw [List.length_append]; simp; omega) (by simp [T.get_set,h0]) (by simp [T.get_set]) c9 (by omega) hi3 r5 (hf.app hv9) z9
  ·rw [if_neg hm] at ho ⊢
   rw [decide_eq_false hm]
   simp only [B9,Br,A8,Bp,B3,Dk,A6,Cg,Bl,A9,A7,Bb,A5,Bf,Cc,A4,Bd,Bc,A0,Bm,Bz,ofOpt,Nat.reduceLT,Nat.reduceEqDiff,Aa,Ab,Ac,Aj,Ak,hf2,h0,h3]
   exact .inl ⟨_,_,tok,es,l,i,rfl,by simp [T.get_set,h3],hf,y2,c1,hi,hp1,rfl⟩
set_option maxHeartbeats 16000000 in
theorem program_p (h2p:2 ≤ p) (n:Nat) (hn:n ≤ 1000000) (S:St) (i:Nat) (h:Cur S p k ts i) (hp:p < S.next) (hi:i < ts.length) (ho:Eh ts n i ≠ .out):WC E1 58 [.ptr p 0] S (Nt p k ts S Nx (Eh ts n i)):=by
 have eP:Eh ts n i=(Jg ts n i).bind fun x j=>Jt ts n n [x] j:=rfl
 rw [eP] at ho ⊢
 clear eP
 refine Dt Tryz.f58 (by kernel_rfl) (by kernel_rfl) (by kernel_rfl) (show (_:Nat) ≤ _ from by show (_:Nat) ≤ _; simp [Tryz.f58]) ?_
 obtain ⟨fn2,hf2⟩:=fnOk90
 simp only [A8,Bj,A6,Bl,A9,A7,Bb,A5,A4,Bd,Bc,B7,A0,A1,Bm,Bz,ofOpt,Be,Nat.reduceLT,Nat.reduceEqDiff,Aa,Ab,Ac,Ae,Aj,Ak,Tryz.f58,hf2]
 have ne1:=Fe ho
 refine WC.mono (node_p hts h2p n hn _ _ h hp hi ne1) ?_
 cases hX1:Jg ts n i with
 | out=>exact absurd hX1 ne1
 | bad a e =>
  rintro _ ⟨S1,rfl,x1⟩
  simp only [Bu,B1,Bt]
  exact ⟨_,rfl,x1⟩
 | ok a1 j1 =>
  rw [hX1] at ho; rw [Cw] at ho ⊢
  rintro _ ⟨v9,S1,rfl,hv9,x1,c1,hi1⟩
  obtain ⟨xs,rfl,hxl⟩:∃ xs,v9=.agg xs ∧ xs.length=6:=by obtain ⟨a,b,c,d,es,e,_⟩:=hv9; exact ⟨_,e,rfl⟩
  have hp1:p < S1.next:=Nat.lt_of_lt_of_le hp x1.1
  have rw1:=wN xs hxl
  simp only [Bj,B3,D3,A6,Bl,A9,A7,A5,Bf,A4,Bd,Bc,A0,A1,ofOpt,Bv,Bs,Nat.reduceLT,Nat.reduceEqDiff,Aa,Ab,Ac,rw1]
  refine WX.mono (gB hts h2p n hn S hp n [a1] j1 _ _ 1 [.agg xs] ho (by simp; omega) (by simp [T.get_set]) (by simp [T.get_set]) c1 hp1 hi1 (.inl rfl) (.cons _ _ _ _ hv9 .nil) x1) ?_
  rintro _ (⟨t9,S9,tok9,es9,l9,i9,rfl,g3,hf9,x9,c9,hi9,hp9,e9⟩ | ⟨t9,S9,a9,e9,rfl,x9,q9⟩)
  ·rw [e9]
   simp only [A8,Bj,By,A6,Cg,Ch,Bl,A9,A7,A5,A4,Bd,Bc,A0,ofOpt,Bi,B0,Bg,Cd,Nat.reduceLT,Nat.reduceEqDiff,Aa,Ab,Ac,g3]
   exact ⟨_,_,rfl,⟨tok9,0,es9,rfl,hf9⟩,x9,c9,hi9⟩
  ·rw [q9]
   simp only [Bu,Cr,Bt]
   exact ⟨_,rfl,x9⟩
end
end Go.Ax
noncomputable section
namespace Go.Ax
open Go.RowKit
def qM (E:Env) (k:FuncId) (args:List AV) (S:St) (m:Option AV) (K:St → Prop):Prop :=
 ∃ fn id ops rest o d,E.F k=some fn ∧ fn.body=some (.seq (.region id ops false) rest) ∧ ops.toList=[o] ∧ Xn o=some d ∧ args.length ≤ fn.ntmps ∧ d < fn.ntmps ∧ fn.results.toList=[] ∧
  WX E fn.ntmps rest ⟨(B7 args 0).set d (some (m.getD (.v .nilIface))),[]⟩ S (fun r=>∃ f' S',(r=.out .normal f' S' ∨ r=.out .ret f' S') ∧ f'.dfr=[] ∧ K S')
def Tz (E:Env) (rs:List ResultVar) (f:Fr) (S:St) (Q:R → Prop):Prop:=match Bg E f.tmps S rs with
 | some l=>Q (.ret (Cd l) S)
 | none=>False
def finD (E:Env) (rs:List ResultVar) (Q:R → Prop):O → Prop
 | .out e f S=>match f.dfr with
  | []=>finW E rs Q (.out e f S)
  | [⟨.func k,caps,args⟩]=>match e with
   | .normal=>qM E k (args ++ caps) S none (fun S'=>Tz E rs f S' Q)
   | .ret=>qM E k (args ++ caps) S none (fun S'=>Tz E rs f S' Q)
   | .pan a=>qM E k (args ++ caps) S (some a) (fun S'=>Tz E rs f S' Q)
   | _=>False
  | _=>False
 | .fail=>False
theorem Ut {E:Env} {k:FuncId} {args:List AV} {S:St} {m:Option AV} {K:St → Prop} (h:qM E k args S m K):∃ S' m0,K S' ∧ ∀ n,m0 ≤ n → qN E (run E (Cf E) n) k args S m=.ok m.isSome S':=by
 obtain ⟨fn,id,ops,rest,o,d,h1,h2,h3,h4,h5,h6,h7,r,⟨m0,hm⟩,f',S',hr,hd,hK⟩:=h
 refine ⟨S',m0,hK,fun n hn=>?_⟩
 have hx:=hm n hn
 unfold qN
 simp only [h1,h2,h3,h4]
 rw [if_pos ⟨h5,h6⟩,hx]
 rcases hr with rfl | rfl <;> simp only [hd,h7]
theorem WC_dfr {E:Env} {k:FuncId} {args:List AV} {S:St} {Q:R → Prop} (fn:Func) (hI:E.I k=none) (hF:E.F k=some fn) (hb:fn.body.isSome=true) (hl:args.length ≤ fn.ntmps)
  (h:WX E fn.ntmps (fn.body.getD .skip) ⟨B7 args 0,[]⟩ S (finD E fn.results.toList Q)):WC E k args S Q:=by
 obtain ⟨r,⟨m0,hm⟩,hq⟩:=h
 obtain ⟨c,hc⟩:=Option.isSome_iff_exists.1 hb
 have key:∀ m,m0 ≤ m → ckN E m k args S=Wb E (run E (Cf E) m) fn r:=fun m hmm=>by
  show Ko E (run E (Cf E) m) k args S=_
  unfold Ko
  rw [hI,hF]
  simp only [hc,if_pos hl]
  have:=hm m hmm
  rw [hc] at this
  rw [show run E (Cf E) m fn.ntmps c ⟨B7 args 0,[]⟩ S=r from this]
 cases r with
 | fail=>exact hq.elim
 | out e f' S' =>
  simp only [finD] at hq
  split at hq
  ·rename_i hd
   have give:∀ (S':St),B0 E fn.results.toList f' S' Q → ∃ l,Bg E f'.tmps S' fn.results.toList=some l ∧ Q (.ret (Cd l) S'):=fun S' hg=>by
    unfold B0 at hg
    split at hg
    ·rename_i l h1 h2; exact ⟨l,h2,hg⟩
    ·exact hg.elim
   cases e with
   | normal =>
    obtain ⟨l,h2,h3⟩:=give S' hq
    exact ⟨_,⟨m0,fun m hmm=>by rw [key m hmm]; simp only [Wb,hd,L1,h2]⟩,h3⟩
   | ret =>
    obtain ⟨l,h2,h3⟩:=give S' hq
    exact ⟨_,⟨m0,fun m hmm=>by rw [key m hmm]; simp only [Wb,hd,L1,h2]⟩,h3⟩
   | pan a=>exact ⟨_,⟨m0,fun m hmm=>by rw [key m hmm]; simp only [Wb,hd]⟩,hq.2⟩
   | exit id=>exact hq.elim
  ·rename_i k' caps args' hd
   have give:∀ (S':St),Tz E fn.results.toList f' S' Q → ∃ l,Bg E f'.tmps S' fn.results.toList=some l ∧ Q (.ret (Cd l) S'):=fun S' hg=>by
    unfold Tz at hg
    split at hg
    ·rename_i l h2; exact ⟨l,h2,hg⟩
    ·exact hg.elim
   cases e with
   | normal =>
    obtain ⟨S2,m1,hK,h1⟩:=Ut hq
    obtain ⟨l,h2,h3⟩:=give S2 hK
    exact ⟨_,⟨max m0 m1,fun m hmm=>by rw [key m (by omega)]; simp only [Wb,hd,h1 m (by omega),L1,h2]⟩,h3⟩
   | ret =>
    obtain ⟨S2,m1,hK,h1⟩:=Ut hq
    obtain ⟨l,h2,h3⟩:=give S2 hK
    exact ⟨_,⟨max m0 m1,fun m hmm=>by rw [key m (by omega)]; simp only [Wb,hd,h1 m (by omega),L1,h2]⟩,h3⟩
   | pan a =>
    obtain ⟨S2,m1,hK,h1⟩:=Ut hq
    obtain ⟨l,h2,h3⟩:=give S2 hK
    exact ⟨_,⟨max m0 m1,fun m hmm=>by rw [key m (by omega)]; simp only [Wb,hd,h1 m (by omega),L1,h2]⟩,h3⟩
   | exit id=>exact hq.elim
  ·exact hq.elim
end Go.Ax
noncomputable section
namespace Go.Ax
open Go.RowKit Go.Proofs
set_option maxRecDepth 100000
theorem end_w (S:St) (p k:Nat) (ts:List Tk) (i:Nat) (h:Cur S p k ts i) (hp:p < S.next) (hi:i < ts.length):WC E1 77 [.ptr p 0] S (fun r=>∃ S',Ep S S' ∧ ((tk ts i).kind=5 ∧ r=.ret (.tup []) S' ∨ (tk ts i).kind ≠ 5 ∧ r=.pan (V6 (tk ts i).pos (Gv (tk ts i))) S')):=by
 refine Dt Tryz.f77 (by kernel_rfl) (by kernel_rfl) (by kernel_rfl) (show (_:Nat) ≤ _ from by show (_:Nat) ≤ _; simp [Tryz.f77]) ?_
 obtain ⟨fn1,hf1⟩:=Oc
 obtain ⟨fn2,hf2⟩:=lS
 have e0:=Km hi
 simp only [A8,Bj,A9,A7,Bb,A5,A4,Bd,Bc,B7,A0,A1,Bm,Bz,ofOpt,Nat.reduceLT,Nat.reduceEqDiff,Aa,Ab,Ac,Ae,Aj,Ak,Tryz.f77,hf1]
 refine WC.mono (Vo _ p k ts i h hp hi) ?_
 rintro _ ⟨S2,rfl,hk⟩
 by_cases h5:(tk ts i).kind=5
 ·have n5:(((ts[i].kind:Nat):Int) != 5)=false:=by rw [← e0,h5]; rfl
  simp only [Br,A8,Bp,A6,Bl,A9,A7,A5,Bf,Cc,A4,Bd,Bc,A0,A1,Bm,Bz,ofOpt,Be,Bv,B5,Db,Nat.reduceLT,Nat.reduceEqDiff,Aa,Ab,Ac,Aj,Ak,Am,Jn,Du,n5]
  exact ⟨_,hk,.inl ⟨h5,rfl⟩⟩
 ·have n5:(((ts[i].kind:Nat):Int) != 5)=true:=by rw [← e0,bne_iff_ne]; omega
  simp only [Br,A8,Bp,A6,Bl,A9,A7,Bb,A5,Bf,Cp,A4,Bd,Bc,A0,A1,Bm,Bz,ofOpt,Be,Bv,B5,Db,Nat.reduceLT,Nat.reduceEqDiff,Aa,Ab,Ac,Aj,Ak,Am,Jn,Du,n5,hf2]
  refine WC.mono (aZ S2 p k ts i (h.keep hp hk) (Nat.lt_of_lt_of_le hp hk.1) hi) ?_
  rintro _ ⟨S3,rfl,hk3⟩
  simp only [B1,Bt]
  exact ⟨_,hk.trans hk3,.inr ⟨h5,by rw [e0]⟩⟩
def nilT (r:OR) (S:St) (x:Option AV):OR:=match x with
 | some (.v .nilIface)=>.val (.v (.bool true)) S
 | _=>r
theorem eqOr20 (f:T AV) (S:St) (k:Nat) (dst:Option Tmp) (ty:TypeId) (pos:String) (af:Array Edge) (gd:Option (Nat × Bool)) :
  Od Tryz.prog gR f S { dst:=dst,op:=.binOp .eql 20 (.tmp k) (.const .nilIface) 20,type:=ty,pos:=pos,after:=af,guard:=gd } .eql 20 (.v .nilIface) (.v .nilIface) =
  nilT (yT Tryz.prog gR f S { dst:=dst,op:=.binOp .eql 20 (.tmp k) (.const .nilIface) 20,type:=ty,pos:=pos,after:=af,guard:=gd } .eql 20 (.v .nilIface) (.v .nilIface)) S (f.get k):=by
 unfold nilT
 split
 ·rename_i hf
  have h0:Mp Tryz.prog .eql 20 (.v .nilIface) (.v .nilIface)=none:=by kernel_rfl
  unfold Od
  rw [h0]
  have hg:D6 gR f (.tmp k)=some .nilIface:=by unfold D6; simp only [Bc,hf]; rfl
  have hc:D6 gR f (.const .nilIface)=some .nilIface:=rfl
  unfold ground
  simp only [Op.operands,List.all_cons,List.all_nil,hg,hc,Option.isSome_some,Bool.and_self,Aa]
  have e:execOp (fun x=>(D6 gR f x).getD undef) { dst:=dst,op:=.binOp .eql 20 (.tmp k) (.const .nilIface) 20,type:=ty,pos:=pos,after:=af,guard:=gd }=execOp (fun _=>.nilIface) { dst:=none,op:=.binOp .eql 20 (.tmp 29) (.const .nilIface) 20,type:=4,pos := "", after:=#[],guard:=none }:=by
   simp only [execOp,hg,hc,Ae]
   rfl
  rw [e]
  have e3:(R6 Tryz.prog 4000 (execOp (fun _=>Value.nilIface) { dst:=none,op:=.binOp .eql 20 (.tmp 29) (.const .nilIface) 20,type:=4,pos := "", after:=#[],guard:=none }))=some (.bool true):=by kernel_rfl
  rw [e3]; rfl
 ·rfl
theorem nilT_nil (r:OR) (S:St):nilT r S (some (.v .nilIface))=.val (.v (.bool true)) S:=rfl
theorem fbNilT:D8 .eql (.v .nilIface) (.v .nilIface)=none:=rfl
theorem as33 (a e:Nat):Vn Tryz.prog 33 true (.iface 33 (.agg (Dl a e)))=some (.tup [.agg (Dl a e),.v (.bool true)]):=by kernel_rfl
theorem nn20:Hn Tryz.prog 20 (.v .nilIface) (.v .nilIface)=false:=by kernel_rfl
theorem nn20i (t:TypeId) (a:AV):Hn Tryz.prog 20 (.iface t a) (.v .nilIface)=true:=by kernel_rfl
theorem recov_nil (S:St) (b:Nat) (K:St → Prop) (hK:K S):qM E1 89 [.ptr b 0] S none K:=by
 refine ⟨Tryz.f89,_,_,_,_,_,by kernel_rfl,rfl,rfl,rfl,(show (_:Nat) ≤ _ from by show (_:Nat) ≤ _; simp [Tryz.f89]),(show (_:Nat) < _ from by show (_:Nat) < _; simp [Tryz.f89]),rfl,Em ?_⟩
 simp only [A8,Bj,Bp,B3,A6,Bw,Bl,A9,A7,A5,Cp,A4,Bd,Bc,B7,A0,A1,ofOpt,Be,Bv,Er,Nat.reduceLT,Nat.reduceEqDiff,Aa,Ab,Ac,Am,Tryz.f89,nn20,fbNilT,eqOr20,nilT_nil,Option.getD_none]
 exact ⟨_,_,.inl rfl,rfl,hK⟩
theorem fY (S:St) (b a e:Nat) (cs:List AV) (hb:S.mem.get b=some (.box cs)) (hl:cs.length=2) (hbn:b < S.next) (K:St → Prop) (hK:∀ S',S'.mem.get b=some (.box (Dl a e)) → S.next ≤ S'.next → (∀ id,id < S.next → id ≠ b → S'.mem.get id=S.mem.get id) → K S'):qM E1 89 [.ptr b 0] S (some (V6 a e)) K:=by
 refine ⟨Tryz.f89,_,_,_,_,_,by kernel_rfl,rfl,rfl,rfl,(show (_:Nat) ≤ _ from by show (_:Nat) ≤ _; simp [Tryz.f89]),(show (_:Nat) < _ from by show (_:Nat) < _; simp [Tryz.f89]),rfl,Em ?_⟩
 unfold V6
 have q1:C9 Tryz.prog (S.newBox (Dl 0 0)) 33 (.ptr S.next 0) (.agg (Dl a e))=some ((S.newBox (Dl 0 0)).put S.next (Dl a e)):=Rq (Do S _) rfl rfl
 have q2:=I6 (S.newBox (Dl 0 0)) S.next (Dl a e) rfl
 have q3:C9 Tryz.prog ((S.newBox (Dl 0 0)).put S.next (Dl a e)) 33 (.ptr b 0) (.agg (Dl a e))=some (((S.newBox (Dl 0 0)).put S.next (Dl a e)).put b (Dl a e)):=Rq ((F7 (by omega)).trans ((Hu hbn).trans hb)) hl rfl
 simp only [A8,Bj,Bp,B3,A6,Bw,Cr,Bl,A9,A7,Bh,Di,Bk,A5,Cp,Cc,A4,Bd,Bc,B7,A0,A1,ofOpt,ofOptS,Be,Bv,Er,Nat.reduceLT,Nat.reduceEqDiff,Aa,Ab,Ac,Ae,Ag,Ah,Tryz.f89,nn20i,as33,Ss,B8,q1,q2,q3]
 exact ⟨_,_,.inl rfl,rfl,hK _ (Et _ _ _) (by rw [Ou]; exact Nat.le_succ _) (fun id hid hn=>(F7 hn).trans ((F7 (by omega)).trans (Hu hid)))⟩
end Go.Ax
noncomputable section
namespace Go.Ax
open Go.RowKit Go.Proofs
set_option maxRecDepth 100000
theorem fnOk58:∃ fn,E1.F 58=some fn:=Option.isSome_iff_exists.1 (by kernel_rfl)
theorem fnOk57:∃ fn,E1.F 57=some fn:=Option.isSome_iff_exists.1 (by kernel_rfl)
theorem fnOk25:∃ fn,E1.F 25=some fn:=Option.isSome_iff_exists.1 (by kernel_rfl)
theorem fnOk77:∃ fn,E1.F 77=some fn:=Option.isSome_iff_exists.1 (by kernel_rfl)
section
variable {p k:Nat} {ts:List Tk} (hts:TokOk ts)
include hts
set_option maxHeartbeats 16000000 in
theorem whole_p (h2p:2 ≤ p) (n:Nat) (hn:n ≤ 1000000) (S:St) (i:Nat) (h:Cur S p k ts i) (hp:p < S.next) (hi:i < ts.length) (ho:Eh ts n i ≠ .out):WC E1 57 [.ptr p 0] S (Nt p k ts S Nx (Eh ts n i)):=by
 refine Dt Tryz.f57 (by kernel_rfl) (by kernel_rfl) (by kernel_rfl) (show (_:Nat) ≤ _ from by show (_:Nat) ≤ _; simp [Tryz.f57]) ?_
 obtain ⟨fn1,hf1⟩:=fnOk58
 simp only [A8,Bj,A6,Bl,A9,A7,Bb,A5,A4,Bd,Bc,B7,A0,A1,Bm,Bz,ofOpt,Be,Nat.reduceLT,Nat.reduceEqDiff,Aa,Ab,Ac,Ae,Aj,Ak,Tryz.f57,hf1]
 refine WC.mono (program_p hts h2p n hn S i h hp hi ho) ?_
 cases hX:Eh ts n i with
 | out=>exact absurd hX ho
 | bad a e =>
  rintro _ ⟨S4,rfl,x4⟩
  simp only [Bu,B1,Bt]
  exact ⟨_,rfl,x4⟩
 | ok a j =>
  rintro _ ⟨v,S4,rfl,hr,x4,c4,hj⟩
  simp only [By,A6,Bl,A9,A7,A5,Bf,A4,Bd,Bc,A0,A1,ofOpt,Bi,B0,Bg,Cd,Nat.reduceLT,Nat.reduceEqDiff,Aa,Ab,Ac]
  exact ⟨_,_,rfl,hr,x4,c4,hj⟩
end
theorem finD_ret0 {E:Env} {rs:List ResultVar} {Q:R → Prop} {t:T AV} {S:St}:finD E rs Q (.out .ret ⟨t,[]⟩ S)=B0 E rs ⟨t,[]⟩ S Q:=id rfl
theorem iL {E:Env} {rs:List ResultVar} {Q:R → Prop} {t:T AV} {S:St} {k:FuncId} {caps args:List AV} {a:AV}:finD E rs Q (.out (.pan a) ⟨t,[⟨.func k,caps,args⟩]⟩ S)=qM E k (args ++ caps) S (some a) (fun S'=>Tz E rs ⟨t,[⟨.func k,caps,args⟩]⟩ S' Q):=id rfl
theorem ag33:Fs Tryz.prog 33=some true:=by kernel_rfl
theorem fa33_1 (b:Nat):Cy Tryz.prog 33 (.ptr b 0) 1=some (.ptr b 1):=by kernel_rfl
theorem ld31f {S:St} {id a e:Nat} (h:S.mem.get id=some (.box (Dl a e))):Cv Tryz.prog S 31 (.ptr id 1)=some (.v (.int .i64 (e:Int))):=by
 have a31:Fs Tryz.prog 31=some false:=by kernel_rfl
 simp [Cv,Dc,h,a31,Dl,Du]
theorem b144 (tok:Nat) (es:List AV):Hl Tryz.prog 144 [(0,.sl tok 0 4 es)]=some (.agg [.sl tok 0 4 es,Du 0]):=by kernel_rfl
theorem b146t (tok:Nat) (es:List AV):Hl Tryz.prog 146 [(0,.agg [.sl tok 0 4 es,Du 0])]=some (.agg [.sl tok 0 4 es,Du 0]):=by kernel_rfl
def J6 (n:Nat) (out:(Nat × Nat) ⊕ List Tk):Option (List PN ⊕ (Nat × Nat)):=match out with
 | .inl x=>some (.inr x)
 | .inr ts=>match Eh ts n 0 with
  | .ok l j=>if (tk ts j).kind=5 then some (.inl l) else some (.inr ((tk ts j).pos,Gv (tk ts j)))
  | .bad a e=>some (.inr (a,e))
  | .out=>none
def rD (S:St) (x:Option (List PN ⊕ (Nat × Nat))) (r:R):Prop:=match x with
 | some (.inl l)=>∃ v S',r=.ret (.tup [v,.agg (Dl 0 0)]) S' ∧ Nx v l ∧ Ep S S'
 | some (.inr y)=>∃ S',r=.ret (.tup [.nils,.agg (Dl y.1 y.2)]) S' ∧ Ep S S'
 | none=>True
set_option maxHeartbeats 16000000 in
theorem read_p (l:List UInt8) (S:St) (hS:2 ≤ S.next) (hsz:l.length ≤ 1000000) (out:(Nat × Nat) ⊕ List Tk) (hlx:Jz l=some out) (hx:∀ x,out=.inl x → x.2 ≠ 0) (n:Nat) (hn:n ≤ 1000000) (hok:∀ ts,out=.inr ts → TokOk ts ∧ 0 < ts.length ∧ Eh ts n 0 ≠ .out):WC E1 56 [Cj l,.fn (.func 57) [] []] S (rD S (J6 n out)):=by
 refine WC_dfr Tryz.f56 (by kernel_rfl) (by kernel_rfl) (by kernel_rfl) (show (_:Nat) ≤ _ from by show (_:Nat) ≤ _; simp [Tryz.f56]) (Em ?_)
 obtain ⟨fn1,hf1⟩:=fnOk25
 obtain ⟨fn2,hf2⟩:=fnOk57
 obtain ⟨fn3,hf3⟩:=fnOk77
 have k1:=Dp S (Dl 0 0)
 simp only [A8,Bj,A6,Bl,A9,A7,Bb,A5,A4,Bd,Bc,B7,A0,A1,Bm,Bz,ofOpt,ofOptS,Be,Bv,Nat.reduceLT,Nat.reduceAdd,Nat.reduceEqDiff,Aa,Ab,Ac,Ae,Aj,Ak,Tryz.f56,Ss,hf1]
 refine WC.mono (all_w l (S.newBox (Dl 0 0)) (Nat.le_succ_of_le hS) hsz out hlx) ?_
 cases out with
 | inl x =>
  rintro _ ⟨S2,rfl,k2⟩
  have hx2:=hx x rfl
  have q1:C9 Tryz.prog (S2.newBox (Dl 0 0)) 33 (.ptr S2.next 0) (.agg (Dl x.1 x.2))=some ((S2.newBox (Dl 0 0)).put S2.next (Dl x.1 x.2)):=Rq (Do S2 _) rfl rfl
  have g1:=Et (S2.newBox (Dl 0 0)) S2.next (Dl x.1 x.2)
  have k3:Ep S2 ((S2.newBox (Dl 0 0)).put S2.next (Dl x.1 x.2)):=Ew (Dp S2 _) (Nat.le_refl _) _
  generalize hS3:(S2.newBox (Dl 0 0)).put S2.next (Dl x.1 x.2)=S3 at q1 g1 k3
  have q2:=ld31f g1
  have n1:(((x.2:Nat):Int) != 0)=true:=by rw [bne_iff_ne]; omega
  have q3:=ldG ag33 s33 g1 rfl
  have g5:S3.mem.get S.next=some (.box (Dl 0 0)):=((k2.trans k3).2 _ (Nat.lt_succ_self _)).trans (Do S _)
  have q4:C9 Tryz.prog S3 33 (.ptr S.next 0) (.agg (Dl x.1 x.2))=some (S3.put S.next (Dl x.1 x.2)):=Rq g5 rfl rfl
  have q5:=I6 S3 S.next (Dl x.1 x.2) rfl
  simp only [Br,A8,Cu,Bj,Bp,A6,Bl,A9,A7,Bh,Bk,A5,Bf,Cp,A4,Bd,Bc,A0,A1,Bz,ofOpt,ofOptS,Be,Bv,Bs,Db,Nat.reduceLT,Nat.reduceEqDiff,Aa,Ab,Ac,Ag,Ah,Ak,Am,Ss,B8,Qg,Pn,q1,fa33_1,q2,Zj,n1]
  refine Jj [(0,true),(1,true),(2,true),(3,true)] (by kernel_rfl) (by kernel_rfl) ?_
  simp only [By,A6,Co,A4,Bd,Bc,A0,A1,ofOpt,Bv,B0,Bg,Cd,Nat.reduceLT,Nat.reduceEqDiff,Aa,Ab,Ac,Af,Ag,Ah,Fw,Dz,C8,D2,D1,Cs,De,Hs,q3,q4,q5,finD_ret0]
  exact ⟨_,rfl,Ew (k1.trans (k2.trans k3)) (Nat.le_refl _) _⟩
 | inr ts =>
  rintro _ ⟨S2,tok,rfl,k2⟩
  obtain ⟨hts,h0,hpo⟩:=hok ts rfl
  have q1:C9 Tryz.prog (S2.newBox (Dl 0 0)) 33 (.ptr S2.next 0) (.agg (Dl 0 0))=some ((S2.newBox (Dl 0 0)).put S2.next (Dl 0 0)):=Rq (Do S2 _) rfl rfl
  have g1:=Et (S2.newBox (Dl 0 0)) S2.next (Dl 0 0)
  have k3:Ep S2 ((S2.newBox (Dl 0 0)).put S2.next (Dl 0 0)):=Ew (Dp S2 _) (Nat.le_refl _) _
  generalize hS3:(S2.newBox (Dl 0 0)).put S2.next (Dl 0 0)=S3 at q1 g1 k3
  have q2:=ld31f g1
  have n1:(((0:Nat):Int) != 0)=false:=rfl
  have g5:S3.mem.get S.next=some (.box (Dl 0 0)):=((k2.trans k3).2 _ (Nat.lt_succ_self _)).trans (Do S _)
  have l5:S.next < S3.next:=Nat.lt_of_lt_of_le (Nat.lt_succ_self _) (k2.trans k3).1
  have kk:=k1.trans (k2.trans k3)
  simp only [Br,A8,Cu,Bj,Bp,A6,Bl,A9,A7,Bh,Bb,Bk,A5,Bf,Cc,A4,Bd,Bc,A0,A1,Bm,Bz,ofOpt,ofOptS,Be,Bv,Bs,Db,Nat.reduceLT,Nat.reduceEqDiff,Aa,Ab,Ac,Ag,Ah,Aj,Ak,Am,Ss,B8,Qg,Pn,q1,fa33_1,q2,Zj,n1,b144,b146t,Cm,Cn,hf2]
  have cu:Cur (S3.newBox [.sl tok 0 4 (ts.map Fd),Du 0]) S3.next tok ts 0:=Do S3 _
  have k4:=Dp S3 [.sl tok 0 4 (ts.map Fd),Du 0]
  have b5:Has S3.next (S3.newBox [.sl tok 0 4 (ts.map Fd),Du 0]) S.next (Dl 0 0):=⟨(k4.2 _ l5).trans g5,Nat.lt_succ_of_lt l5,by omega⟩
  have toK:∀ S',Eb S3.next (S3.newBox [.sl tok 0 4 (ts.map Fd),Du 0]) S' → Ep S3 S':=fun S' x=>⟨Nat.le_trans (Nat.le_succ _) x.1,fun id hid=>(x.2 id (Nat.lt_succ_of_lt hid) (by omega)).trans (k4.2 id hid)⟩
  refine WC.mono (whole_p hts (Nat.le_trans hS kk.1) n hn _ 0 cu (Nat.lt_succ_self _) h0 hpo) ?_
  have eR:J6 n (.inr ts)=match Eh ts n 0 with
   | .ok l j=>if (tk ts j).kind=5 then some (.inl l) else some (.inr ((tk ts j).pos,Gv (tk ts j)))
   | .bad a e=>some (.inr (a,e))
   | .out=>none:=rfl
  rw [eR]
  clear eR
  cases hX:Eh ts n 0 with
  | out=>exact absurd hX hpo
  | bad a e =>
   rintro _ ⟨S5,rfl,x5⟩
   have b6:=b5.keep x5
   simp only [Bu,B1,Aj,iL]
   refine fY S5 S.next a e (Dl 0 0) b6.get rfl b6.lt _ ?_
   intro S6 g6 n6 k6
   have q6:=ldG ag33 s33 g6 rfl
   unfold Tz
   simp only [A0,A1,Bv,Bg,Cd,Nat.reduceEqDiff,Aa,Ab,q6]
   refine ⟨_,rfl,Nat.le_trans (kk.trans (toK S5 x5)).1 n6,fun id hid=>?_⟩
   rw [k6 id (Nat.lt_of_lt_of_le hid (kk.trans (toK S5 x5)).1) (by omega)]
   exact (kk.trans (toK S5 x5)).2 id hid
  | ok l j =>
   rintro _ ⟨v,S5,rfl,hv,x5,c5,hj⟩
   have b6:=b5.keep x5
   simp only [A8,Bj,A6,Bl,A9,A7,Bb,A5,Bf,A4,Bd,Bc,A0,A1,Bm,Bz,ofOpt,Bv,Nat.reduceLT,Nat.reduceEqDiff,Aa,Ab,Ac,Aj,Ak,fp0,hf3]
   refine WC.mono (end_w S5 _ _ ts j c5 (Nat.lt_of_lt_of_le (Nat.lt_succ_self _) x5.1) hj) ?_
   rintro _ ⟨S6,k6,⟨h5,rfl⟩ | ⟨h5,rfl⟩⟩
   ·rw [show (if (tk ts j).kind=5 then some (.inl l) else some (.inr ((tk ts j).pos,Gv (tk ts j))):Option (List PN ⊕ (Nat × Nat)))=some (.inl l) from if_pos h5]
    have b7:=b6.keep (k6.x _)
    have q7:C9 Tryz.prog S6 33 (.ptr S.next 0) (.agg (Dl 0 0))=some (S6.put S.next (Dl 0 0)):=Rq b7.get rfl rfl
    have q8:=I6 S6 S.next (Dl 0 0) rfl
    simp only [A8,Bj,By,A6,Bl,A9,A7,Bh,Bk,A5,Bf,A4,Bd,Bc,A0,A1,ofOpt,Bv,Bs,Nat.reduceLT,Nat.reduceEqDiff,Aa,Ab,Ac,b33_0,q7]
    refine recov_nil _ S.next _ ?_
    unfold Tz
    simp only [A0,A1,Bv,Bg,Cd,Nat.reduceEqDiff,Aa,Ab,q8]
    exact ⟨v,_,rfl,hv,Ew (kk.trans ((toK S5 x5).trans k6)) (Nat.le_refl _) _⟩
   ·rw [show (if (tk ts j).kind=5 then some (.inl l) else some (.inr ((tk ts j).pos,Gv (tk ts j))):Option (List PN ⊕ (Nat × Nat)))=some (.inr ((tk ts j).pos,Gv (tk ts j))) from if_neg h5]
    have b7:=b6.keep (k6.x _)
    simp only [Bu,B1,Aj,iL]
    refine fY S6 S.next (tk ts j).pos (Gv (tk ts j)) (Dl 0 0) b7.get rfl b7.lt _ ?_
    intro S7 g7 n7 k7
    have q9:=ldG ag33 s33 g7 rfl
    unfold Tz
    simp only [A0,A1,Bv,Bg,Cd,Nat.reduceEqDiff,Aa,Ab,q9]
    have ka:=kk.trans ((toK S5 x5).trans k6)
    refine ⟨_,rfl,Nat.le_trans ka.1 n7,fun id hid=>?_⟩
    rw [k7 id (Nat.lt_of_lt_of_le hid ka.1) (by omega)]
    exact ka.2 id hid
end Go.Ax
noncomputable section
namespace Go.Ax
open Go.RowKit Go.Proofs
set_option maxRecDepth 100000
theorem next_kind {l:List UInt8} {i:Nat} {t:Tk} (h:Hf l i=some (t,0)):t.kind ≠ 5:=by
 unfold Hf at h
 split at h
 ·cases h
 ·rename_i b r
  split at h
  ·injection h with h
   unfold Ln at h
   split at h
   ·injection h with h1 h2; subst h1; exact fun e=>by cases e
   ·split at h
    ·injection h with h1 h2; cases h2
    ·injection h with h1 h2; subst h1; exact fun e=>by cases e
  ·split at h
   ·unfold Ul at h
    split at h
    ·injection h with h; injection h with h1 h2; cases h2
    ·split at h
     ·split at h
      ·injection h with h; injection h with h1 h2; cases h2
      ·injection h with h; injection h with h1 h2; subst h1; exact fun e=>by cases e
     ·injection h with h; injection h with h1 h2; cases h2
   ·injection h with h
    unfold Kp at h
    split at h
    ·injection h with h1 h2; subst h1; exact fun e=>by cases e
    ·injection h with h1 h2; cases h2
theorem zH (l:List UInt8):∀ (n i:Nat) (ts:List Tk),Mx l n i=some (.inr ts) → 0 < ts.length ∧ (∀ j (h:j < ts.length),ts[j].kind ≠ 5 → j + 1 < ts.length) ∧ (∀ j (h:j < ts.length),ts[j].kind=5 → ts[j].text=[]) ∧ ts.length ≤ n
 | 0,i,ts,h=>by cases h
 | n + 1,i,ts,h=>by
  unfold Mx at h
  split at h
  ·split at h
   ·cases h
   ·rename_i p hp
    split at h
    ·rename_i he
     split at h
     ·cases h
     ·cases h
     ·rename_i ts2 h2
      injection h with h; injection h with h; subst h
      obtain ⟨a1,a2,a3,a4⟩:=zH l n _ ts2 h2
      have hk:p.1.kind ≠ 5:=next_kind (i:=i) (by rw [hp,← he])
      refine ⟨by simp,fun j hj hne=>?_,fun j hj he5=>?_,by simp; omega⟩
      ·cases j with
       | zero=>simp; omega
       | succ j =>
        have:=a2 j (by simpa using hj) (by simpa using hne)
        simp; omega
      ·cases j with
       | zero=>exact absurd he5 hk
       | succ j=>exact a3 j (by simpa using hj) (by simpa using he5)
    ·cases h
  ·injection h with h; injection h with h; subst h
   refine ⟨by simp,fun j hj hne=>?_,fun j hj he5=>?_,by simp⟩
   ·have:j=0:=by simp at hj; exact hj
    subst this
    exact absurd rfl hne
   ·have:j=0:=by simp at hj; exact hj
    subst this
    rfl
theorem rB (l:List UInt8):∀ (n i:Nat) (x:Nat × Nat),Mx l n i=some (.inl x) → x.2 ≠ 0
 | 0,i,x,h=>by cases h
 | n + 1,i,x,h=>by
  unfold Mx at h
  split at h
  ·split at h
   ·cases h
   ·rename_i p hp
    split at h
    ·split at h
     ·cases h
     ·rename_i y h2
      injection h with h; injection h with h; subst h
      exact rB l n _ _ h2
     ·cases h
    ·rename_i he
     injection h with h; injection h with h; subst h
     exact he
  ·cases h
theorem Tf {l:List UInt8} {ts:List Tk} (h:Jz l=some (.inr ts)):TokOk ts ∧ 0 < ts.length:=by
 unfold Jz at h
 split at h
 ·cases h
 ·obtain ⟨a1,a2,a3,a4⟩:=zH l _ _ ts h
  exact ⟨⟨a2,a3,by omega⟩,a1⟩
theorem cA {l:List UInt8} {x:Nat × Nat} (h:Jz l=some (.inl x)):x.2 ≠ 0:=by
 unfold Jz at h
 split at h
 ·injection h with h; injection h with h; subst h; exact fun e=>by cases e
 ·exact rB l _ _ x h
end Go.Ax
noncomputable section
namespace Go.Ax
open Go.RowKit Go.Proofs
set_option maxRecDepth 100000
theorem fnOk56:∃ fn,E1.F 56=some fn:=Option.isSome_iff_exists.1 (by kernel_rfl)
set_option maxHeartbeats 16000000 in
theorem bH (l:List UInt8) (S:St) (hS:2 ≤ S.next) (hsz:l.length ≤ 1000000) (out:(Nat × Nat) ⊕ List Tk) (hlx:Jz l=some out) (n:Nat) (hn:n ≤ 1000000) (hok:J6 n out ≠ none):WC E1 19 [Cj l] S (rD S (J6 n out)):=by
 refine Dt Tryz.f19 (by kernel_rfl) (by kernel_rfl) (by kernel_rfl) (show (_:Nat) ≤ _ from by show (_:Nat) ≤ _; simp [Tryz.f19]) ?_
 obtain ⟨fn1,hf1⟩:=fnOk56
 have k1:=Dp S (Dl 0 0)
 simp only [A8,Bj,A6,Bl,A9,A7,Bb,A5,A4,Bd,Bc,B7,A0,A1,Bm,Bz,ofOpt,ofOptS,Be,Bv,Nat.reduceLT,Nat.reduceEqDiff,Aa,Ab,Ac,Ae,Aj,Ak,Tryz.f19,Ss,hf1]
 refine WC.mono (read_p l (S.newBox (Dl 0 0)) (Nat.le_succ_of_le hS) hsz out hlx (fun x e=>cA (e ▸ hlx)) n hn (fun ts e=>?_)) ?_
 ·subst e
  obtain ⟨a1,a2⟩:=Tf hlx
  refine ⟨a1,a2,fun e=>hok ?_⟩
  unfold J6
  simp only
  rw [e]
 ·cases hR:J6 n out with
  | none=>exact absurd hR hok
  | some y =>
   cases y with
   | inl ns =>
    rintro _ ⟨v,S2,rfl,hv,k2⟩
    have g5:S2.mem.get S.next=some (.box (Dl 0 0)):=(k2.2 _ (Nat.lt_succ_self _)).trans (Do S _)
    have q4:C9 Tryz.prog S2 33 (.ptr S.next 0) (.agg (Dl 0 0))=some (S2.put S.next (Dl 0 0)):=Rq g5 rfl rfl
    have q5:=I6 S2 S.next (Dl 0 0) rfl
    simp only [By,A6,Bl,A9,A7,Bh,Bk,A5,Bf,A4,Bd,Bc,A0,A1,ofOpt,Bv,Bi,B0,Bg,Cd,Nat.reduceLT,Nat.reduceEqDiff,Aa,Ab,Ac,Ag,Ah,B8,q4,q5]
    exact ⟨v,_,rfl,hv,Ew (k1.trans k2) (Nat.le_refl _) _⟩
   | inr y =>
    rintro _ ⟨S2,rfl,k2⟩
    have g5:S2.mem.get S.next=some (.box (Dl 0 0)):=(k2.2 _ (Nat.lt_succ_self _)).trans (Do S _)
    have q4:C9 Tryz.prog S2 33 (.ptr S.next 0) (.agg (Dl y.1 y.2))=some (S2.put S.next (Dl y.1 y.2)):=Rq g5 rfl rfl
    have q5:=I6 S2 S.next (Dl y.1 y.2) rfl
    simp only [By,A6,Bl,A9,A7,Bh,Bk,A5,Bf,A4,Bd,Bc,A0,A1,ofOpt,Bv,Bi,B0,Bg,Cd,Nat.reduceLT,Nat.reduceEqDiff,Aa,Ab,Ac,Ag,Ah,B8,q4,q5]
    exact ⟨_,rfl,Ew (k1.trans k2) (Nat.le_refl _) _⟩
end Go.Ax
noncomputable section
namespace Go.Ax
open Go.RowKit Go.Proofs
set_option maxRecDepth 100000
section
variable {p k:Nat} {ts:List Tk} (hts:TokOk ts)
include hts
end
end Go.Ax
noncomputable section
namespace Go.Ax
open Go.RowKit Go.Proofs
section
variable {E:Env} {n:Nat} {f:Fr} {S:St} {Q:O → Prop} {ops:Array Oper} {t:T AV} {ds:List Dfr}
theorem Bo {o:Oper} {l:List Oper} {a:AV} {S':St}:Rm E n ops o l f S Q (some true) (.val a S')=W6 E n ops l o.dst f a S' Q:=_root_.id rfl
theorem F4 {o:Oper} {l:List Oper} {S':St}:Rm E n ops o l f S Q (some true) (.skip S')=W6 E n ops l o.dst f (.tup []) S' Q:=_root_.id rfl
theorem B6 {o:Oper} {l:List Oper} {k:FuncId} {args:List AV} {S':St}:Rm E n ops o l f S Q (some true) (.enter k args S')=WC E k args S' (retL E n ops l o.dst f Q):=_root_.id rfl
theorem Gj {l:List Oper} {a:AV}:W6 E n ops l none f a S Q=WL E n ops l f S Q:=_root_.id rfl
theorem Bn {l:List Oper} {d:Nat} {a:AV}:W6 E n ops l (some d) ⟨t,ds⟩ a S Q=(d < n ∧ WL E n ops l ⟨t.set d (some a),ds⟩ S Q):=_root_.id rfl
theorem Cz {l:List Oper} {dst:Option Tmp} {a:AV}:retL E n ops l dst f Q (.ret a S)=W6 E n ops l dst f a S Q:=_root_.id rfl
theorem L5 {o:Oper} {l:List RS}:WR E n ops (.re o :: l) f S Q=(Dy E ops o f.tmps S=true ∧ WR E n ops l f S Q):=_root_.id rfl
theorem Eg {o:Oper} {l:List RS} {a:AV} {S':St}:T1 E n ops o l f S Q (some true) (.val a S')=R5 E n ops l o.dst f a S' Q:=_root_.id rfl
theorem E5 {o:Oper} {l:List RS} {k:FuncId} {args:List AV} {S':St}:T1 E n ops o l f S Q (some true) (.enter k args S')=WC E k args S' (fS E n ops l o.dst f Q):=_root_.id rfl
theorem D0 {l:List RS} {d:Nat} {a:AV}:R5 E n ops l (some d) ⟨t,ds⟩ a S Q=(d < n ∧ WR E n ops l ⟨t.set d (some a),ds⟩ S Q):=_root_.id rfl
theorem Fy {l:List RS} {dst:Option Tmp} {a:AV}:fS E n ops l dst f Q (.ret a S)=R5 E n ops l dst f a S Q:=_root_.id rfl
theorem C6 {x y:Prop}:Wg (some (.v (.bool true))) x y=x:=_root_.id rfl
theorem Dh {x y:Prop}:Wg (some (.v (.bool false))) x y=y:=_root_.id rfl
theorem Ff {b:Code} {id:Nat}:kF E n b Q (.out (.exit id) f S)=Q (.out (.exit id) f S):=_root_.id rfl
theorem Cb {b:Code}:kF E n b Q (.out .ret f S)=Q (.out .ret f S):=_root_.id rfl
theorem Ca {id:Nat}:Nz id Q (.out .normal f S)=Q (.out .normal f S):=_root_.id rfl
theorem Cl {id:Nat}:Nz id Q (.out .ret f S)=Q (.out .ret f S):=_root_.id rfl
theorem Gg {id id':Nat}:Nz id Q (.out (.exit id') f S)=if id' = id then Q (.out .normal f S) else Q (.out (.exit id') f S):=_root_.id rfl
theorem Gy {g:Fr}:fixQ ops g Q (.out .normal f S)=Q (.out .normal f S):=_root_.id rfl
end
end Go.Ax
noncomputable section
namespace Go.Ax
open Go.RowKit Go.Proofs
set_option maxRecDepth 100000
def stB (s w:List UInt8) (a:Nat):Bool:=decide (a + w.length ≤ s.length) && decide ((s.drop a).take w.length=w)
def Nb (name:List UInt8):List (Int × List UInt8):=[(3,name),(13,name),(6,name),(7,[105,102]),(8,[45,62]),(9,[102,98,121]),(10,[112,114,101]),(11,[119,104,101,110]),(12,[109,101,114,103,101]),(14,[97,119,97,105,116]),(5,[110,111,116]),(4,[45])]
def Jh:List (Int × List UInt8) → Int → List UInt8
 | [],_=>[]
 | (a,s) :: r,k=>if k=a then s else Jh r k
def kindOf:PE → Nat
 | .mk kind _ _ _ _ _=>kind
def oL:PE → Nat
 | .mk _ pos _ _ _ _=>pos
def nameOf:PE → List UInt8
 | .mk _ _ _ name _ _=>name
def Ww (e:PE):List UInt8:=Jh (Nb (nameOf e)) (kindOf e:Int)
end Go.Ax
