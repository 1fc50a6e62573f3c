/- ZbPm -/
import Derived.Test.YtimbgdjbggdgmaaGreatDoorNcG16
import Derived.Test.YtimbgdjbggdgmaaGreatDoorNcG10
set_option linter.unusedVariables false
set_option linter.unusedSimpArgs false
set_option maxHeartbeats 16000000
noncomputable section
open Nat (reduceLT reduceEqDiff)
namespace Go.Ax
open Go.RowKit Go.Proofs
set_option maxRecDepth 100000
def Ke(ts:List Tk)(n j:Nat):PR (List PD):=if(tk ts j).text∈[[118,97,114]]then(D5 ts (j+1)).bind fun x m=>Ix ts n [x] m else .ok [] j
def Hk(ts:List Tk)(n i:Nat):PR PN:=(B2 ts [[110,111,100,101]] i).bind fun _ j=>(Eu ts 1 j).bind fun t j=>(Hz ts (El ts) n j).bind fun ins j=>(B2 ts [[114,101,116,117,114,110,115]] j).bind fun _ j=>(Hz ts (El ts) n j).bind fun outs j=>(Ke ts n j).bind fun vars j=>(B2 ts [[108,101,116]] j).bind fun _ j=>(Oa ts n n [] j).bind fun qs j=>(B2 ts [[116,101,108]] j).bind fun _ j=>.ok ⟨t.text,t.pos,ins,outs,vars,qs⟩ j
def Hg(v:AV)(nd:PN):Prop:=∃a b c d es,v=.agg (H7 nd.name nd.pos a b c d)∧H8 6 D7 a nd.ins∧H8 6 D7 b nd.outs∧H8 6 D7 c nd.vars∧((d=.nils∧es=[])∨∃tok,d=.sl tok 0 8 es)∧EqRows es nd.eqs
theorem b49(s:List UInt8)(a:Nat):Du Tryz.prog 38 [(0,.v (.string ⟨⟨s⟩⟩)),(1,.v (.int .i64 (a:Int)))]=some (.agg (H7 s a .nils .nils .nils .nils)):=by kernel_rfl
theorem fa49_2(b:Nat):A3 Tryz.prog 38 (.ptr b 0) 2=some (.ptr b 2):=by kernel_rfl
theorem zB(b:Nat):A3 Tryz.prog 38 (.ptr b 0) 3=some (.ptr b 3):=by kernel_rfl
theorem fa49_4(b:Nat):A3 Tryz.prog 38 (.ptr b 0) 4=some (.ptr b 4):=by kernel_rfl
theorem s46:Cl Tryz.prog 35=some 1:=by kernel_rfl
theorem O3{v:AV}{l:List PD}(h:H8 6 D7 v l):v.noTup=true∧v.cells=[v]:=by
 rcases h with⟨rfl,_⟩ | ⟨tok,off,rfl⟩ <;> exact⟨rfl,rfl⟩
section
variable {S:St} {id:Nat} {nm:List UInt8} {pos:Nat} {a b c d v:AV} {l:List PD} (h:S.mem.get id=some (.box (H7 nm pos a b c d))) (hv:H8 6 D7 v l)
include h hv
theorem st49_2:Bl Tryz.prog S 35 (.ptr id 2) v=some (S.put id (H7 nm pos v b c d)):=by
 simp[Bl,h,s46,(O3 hv).1,(O3 hv).2,St.put,H7]
theorem st49_3:Bl Tryz.prog S 35 (.ptr id 3) v=some (S.put id (H7 nm pos a v c d)):=by
 simp[Bl,h,s46,(O3 hv).1,(O3 hv).2,St.put,H7]
theorem st49_4:Bl Tryz.prog S 35 (.ptr id 4) v=some (S.put id (H7 nm pos a b v d)):=by
 simp[Bl,h,s46,(O3 hv).1,(O3 hv).2,St.put,H7]
end
section
variable {p k:Nat} {ts:List Tk} (hts:TokOk ts)
include hts
theorem node_p(h2p:2≤p)(n:Nat)(hn:n≤1000000)(S:St)(i:Nat)(h:Cur S p k ts i)(hp:p<S.next)(hi:i<ts.length)(ho:Hk ts n i≠.out):WC E1 111 [.ptr p 0] S (Ot p k ts S Hg (Hk ts n i)):=by
 have eP:Hk ts n i=(B2 ts [[110,111,100,101]] i).bind fun _ j=>(Eu ts 1 j).bind fun t j=>(Hz ts (El ts) n j).bind fun ins j=>(B2 ts [[114,101,116,117,114,110,115]] j).bind fun _ j=>(Hz ts (El ts) n j).bind fun outs j=>(Ke ts n j).bind fun vars j=>(B2 ts [[108,101,116]] j).bind fun _ j=>(Oa ts n n [] j).bind fun qs j=>(B2 ts [[116,101,108]] j).bind fun _ j=>.ok ⟨t.text,t.pos,ins,outs,vars,qs⟩ j:=rfl
 rw[eP]at ho ⊢;clear eP;refine WCk Tryz.f111 ?_;obtain⟨fn1,hf1⟩:=fX 169;obtain⟨fn2,hf2⟩:=fX 170;obtain⟨fn3,hf3⟩:=fX 171;obtain⟨fn4,hf4⟩:=fX 173;obtain⟨fn5,hf5⟩:=fX 174;obtain⟨fn6,hf6⟩:=fX 112;obtain⟨x1,c1,br,hp1⟩:=tE wK h hp;have y2:=x1;simp only[Bz,Dz,A4,Bn,B1,By,Bv,Bu,Bc,Bg,A6,Cx,A0,A1,Ct,C9,ofOpt,ofOptS,Bo,Ff,C8,reduceLT,reduceEqDiff,Aa,Ab,Ac,Ae,Aj,Ak,Tryz.f111,fp0,Hl,hf1,alo49];refine WC.mono (Hq c1 hp1 hi hts 1 0 [[110,111,100,101]] (by decide) (by decide)) ?_
 cases hX3:B2 ts [[110,111,100,101]] i with
 |out=>exact absurd hX3 (Fa _ _ _)
 |bad a e =>
  rintro _ ⟨S3,rfl,x3⟩;simp only[A9,Bf,A7];exact⟨_,rfl,y2.trans x3⟩
 |ok a3 j3 =>
  rw[hX3]at ho;rw[Bs]at ho ⊢;rintro _ ⟨_,S3,rfl,rfl,x3,c3,hi3⟩;have hp3:p<S3.next:=Ja0 hp1 x3.1;have y4:=(y2).trans x3;have br_4:=br.keep x3;simp only[Bz,Dz,A4,Bn,B1,By,Bv,Bu,Cd,Bc,Bg,A6,A0,A1,Ct,C9,ofOpt,Bo,Ff,reduceLT,reduceEqDiff,Aa,Ab,Ac,Aj,Ak,fp0,hf2];refine WC.mono (R3 c3 hp3 hi3 hts 1 (by decide)) ?_
  cases hX5:Eu ts 1 j3 with
  |out=>exact absurd hX5 (K4 _ _ _)
  |bad a e =>
   rintro _ ⟨S5,rfl,x5⟩;simp only[A9,Bf,A7];exact⟨_,rfl,y4.trans x5⟩
  |ok a5 j5 =>
   rw[hX5]at ho;rw[Bs]at ho ⊢;rintro _ ⟨_,S5,rfl,rfl,x5,c5,hi5⟩;have hp5:p<S5.next:=Ja0 hp3 x5.1;have y6:=(y4).trans x5;have br_6:=br_4.keep x5;obtain⟨S7,q7,x7,c7,bt,hp7⟩:=Dq c5 hp5 a5;have y8:=(y6).trans x7;have br_8:=br_6.keep x7;have lp:=bt.pos;have lt:=bt.text;obtain⟨S9,q9,x9,c9,bd,hp9⟩:=boxG2 sz49 wK rfl c7 hp7 (xs:=H7 a5.text a5.pos .nils .nils .nils .nils) rfl;have y10:=(y8).trans x9;have br_10:=br_8.keep x9;have hne:S7.next≠S.next:=by have:=br_8.lt;omega
   have ne11:=Ep ho;simp only[Bz,Dz,A4,Bn,B1,By,B3,Bv,Cc,Bu,Cd,Bc,Bg,A6,A0,A1,Ct,C9,ofOpt,ofOptS,Ff,C8,reduceLT,reduceEqDiff,Aa,Ab,Ac,Aj,Ak,Ty,hf3,alo49,q7,fd1,fa2,lp,lt,b49,q9];refine WC.mono (Zz hts h2p 172 (El ts) (Xr ts) (fX 172) (zM hts) n hn _ _ c9 hp9 hi5 ne11) ?_
   cases hX12:Hz ts (El ts) n j5 with
   |out=>exact absurd hX12 ne11
   |bad a e =>
    rintro _ ⟨S12,rfl,x12⟩;simp only[A9,Bf,A7];exact⟨_,rfl,y10.trans x12⟩
   |ok l12 j12 =>
    rw[hX12]at ho;rw[Bs]at ho ⊢;rintro _ ⟨va,S12,rfl,hva,x12,c12,hi12⟩;have hp12:p<S12.next:=Ja0 hp9 x12.1;have y13:=(y10).trans x12;have br_13:=br_10.keep x12;have bd_13:=bd.keep x12;have st701:=st49_2 bd_13.get hva;obtain⟨px701,pc701,pb701,pr701⟩:=U4 (ys:=H7 a5.text a5.pos va .nils .nils .nils) y13 y8.1 bd_13 c12 br_13 hne;simp only[Bz,Dz,A4,Bn,B1,By,B3,Bv,Cc,Bu,Cd,Bc,Bg,A6,A0,A1,Ct,C9,ofOpt,Bo,Ff,C8,reduceLT,reduceEqDiff,Aa,Ab,Ac,Aj,Ak,fp0,Hl,hf1,fa49_2,st701];refine WC.mono (Hq pc701 hp12 hi12 hts 1 0 [[114,101,116,117,114,110,115]] (by decide) (by decide)) ?_
    cases hX14:B2 ts [[114,101,116,117,114,110,115]] j12 with
    |out=>exact absurd hX14 (Fa _ _ _)
    |bad a e =>
     rintro _ ⟨S14,rfl,x14⟩;simp only[A9,Bf,A7];exact⟨_,rfl,px701.trans x14⟩
    |ok a14 j14 =>
     rw[hX14]at ho;rw[Bs]at ho ⊢;rintro _ ⟨_,S14,rfl,rfl,x14,c14,hi14⟩;have hp14:p<S14.next:=Ja0 hp12 x14.1;have y15:=(px701).trans x14;have bd_15:=pb701.keep x14;have br_15:=pr701.keep x14;have ne16:=Ep ho;simp only[Bz,Dz,A4,Bn,B1,By,Bv,Bu,Cd,Bc,Bg,A6,A0,A1,Ct,C9,ofOpt,reduceLT,reduceEqDiff,Aa,Ab,Ac,Aj,Ak,hf3];refine WC.mono (Zz hts h2p 172 (El ts) (Xr ts) (fX 172) (zM hts) n hn _ _ c14 hp14 hi14 ne16) ?_
     cases hX17:Hz ts (El ts) n j14 with
     |out=>exact absurd hX17 ne16
     |bad a e =>
      rintro _ ⟨S17,rfl,x17⟩;simp only[A9,Bf,A7];exact⟨_,rfl,y15.trans x17⟩
     |ok l17 j17 =>
      rw[hX17]at ho;rw[Bs]at ho ⊢;rintro _ ⟨vb,S17,rfl,hvb,x17,c17,hi17⟩;have hp17:p<S17.next:=Ja0 hp14 x17.1;have y18:=(y15).trans x17;have bd_18:=bd_15.keep x17;have br_18:=br_15.keep x17;have st702:=st49_3 bd_18.get hvb;obtain⟨px702,pc702,pb702,pr702⟩:=U4 (ys:=H7 a5.text a5.pos va vb .nils .nils) y18 y8.1 bd_18 c17 br_18 hne;have eV:Ke ts n j17=if(tk ts j17).text∈[[118,97,114]]then(D5 ts (j17+1)).bind fun x m=>Ix ts n [x] m else .ok [] j17:=rfl
      rw[eV]at ho ⊢;clear eV
      by_cases hm:(tk ts j17).text∈[[118,97,114]]
      ·rw[if_pos hm]at ho ⊢
       simp only[Bz,Dz,A4,Bn,B1,By,B3,Bv,Cc,Bu,Cd,Bc,Bg,A6,A0,A1,Ct,C9,ofOpt,Bo,Ff,C8,reduceLT,reduceEqDiff,Aa,Ab,Ac,Aj,Ak,fp0,Hl,hf4,zB,st702];refine WC.mono (J1 pc702 hp17 hi17 hts 1 0 [[118,97,114]] (by decide) (by decide) hm) ?_
       rintro _ ⟨S19,rfl,x19,c19,hi19,hp19⟩;have y20:=(px702).trans x19;have bd_20:=pb702.keep x19;have br_20:=pr702.keep x19;obtain⟨S21,q21,x21,c21,bv,hp21⟩:=Dq c19 hp19 (tk ts j17);have y22:=(y20).trans x21;have bd_22:=bd_20.keep x21;have br_22:=br_20.keep x21;have ne23:=Ep ho;simp only[Db,Bz,Dz,Dr,A4,Bn,B1,By,B3,Bv,Cc,Bu,Cd,Fi,Bc,Bg,A6,A0,A1,Ct,C9,ofOpt,ofOptS,Bo,Ff,C8,reduceLT,reduceEqDiff,Aa,Ab,Ac,Ag,Ah,Aj,Ak,Ty,fp0,D3,Hl,hf1,hf5,q21];refine WC.mono (vars_p hts h2p n hn _ _ c21 hp21 hi19 ne23) ?_
       cases hX24:(D5 ts (j17+1)).bind fun x m=>Ix ts n [x] m with
       |out=>exact absurd hX24 ne23
       |bad a e =>
        rintro _ ⟨S24,rfl,x24⟩;simp only[A9,Bf,A7];exact⟨_,rfl,y22.trans x24⟩
       |ok l24 j24 =>
        rw[hX24]at ho;rw[Bs]at ho ⊢;rintro _ ⟨vc,S24,rfl,hvc,x24,c24,hi24⟩;have hp24:p<S24.next:=Ja0 hp21 x24.1;have y25:=(y22).trans x24;have bd_25:=bd_22.keep x24;have br_25:=br_22.keep x24;have st703:=st49_4 bd_25.get hvc;obtain⟨px703,pc703,pb703,pr703⟩:=U4 (ys:=H7 a5.text a5.pos va vb vc .nils) y25 y8.1 bd_25 c24 br_25 hne;simp only[Bz,Dz,A4,Bn,B1,By,B3,Bv,Cc,Bu,Cd,Bc,Bg,A6,A0,A1,Ct,C9,ofOpt,Bo,Ff,C8,reduceLT,reduceEqDiff,Aa,Ab,Ac,Aj,Ak,fp0,Hl,hf1,fa49_4,st703];refine WC.mono (Hq pc703 hp24 hi24 hts 1 0 [[108,101,116]] (by decide) (by decide)) ?_
        cases hX26:B2 ts [[108,101,116]] j24 with
        |out=>exact absurd hX26 (Fa _ _ _)
        |bad a e =>
         rintro _ ⟨S26,rfl,x26⟩;simp only[A9,Bf,A7];exact⟨_,rfl,px703.trans x26⟩
        |ok a26 j26 =>
         rw[hX26]at ho;rw[Bs]at ho ⊢;rintro _ ⟨_,S26,rfl,rfl,x26,c26,hi26⟩;have hp26:p<S26.next:=Ja0 hp24 x26.1;have y27:=(px703).trans x26;have bd_27:=pb703.keep x26;have br_27:=pr703.keep x26;simp only[Dz,Dc,Iq,A4,Bn,Bu,Cd,reduceLT,Ac];have neE:=Ep ho;refine WX.mono (fO hts h2p n hn S hp S.next S7.next (Ja1 _) y8.1 hne a5.text a5.pos va vb vc n [] j26 _ _ .nils [] neE (by simp;omega) (by simp[T.get_set]) (by simp[T.get_set]) (by simp[T.get_set]) c26 hp26 hi26 br_27 bd_27 (.inl ⟨rfl,rfl⟩) .nil y27) ?_
         rintro _ (⟨t9,S9,d9,es9,l9,i9,rfl,g0,g2,g4,hr9,hb9,hq9,hf9,x9,c9,hi9,hp9,e9⟩ | ⟨t9,S9,a9,e9,rfl,x9,q9⟩)
         ·rw[e9]at ho ⊢
          rw[Bs]at ho ⊢;simp only[Bz,Dz,A4,Er,Ea,B1,By,Bv,Bu,Bc,Bg,A6,A0,Ct,C9,ofOpt,Bo,Ff,C8,reduceLT,reduceEqDiff,Aa,Ab,Ac,Aj,Ak,fp0,Hl,hf1,g0];refine WC.mono (Hq c9 hp9 hi9 hts 1 0 [[116,101,108]] (by decide) (by decide)) ?_
          cases hX29:B2 ts [[116,101,108]] i9 with
          |out=>exact absurd hX29 (Fa _ _ _)
          |bad a e =>
           rintro _ ⟨S29,rfl,x29⟩;simp only[A9,Bf,A7];exact⟨_,rfl,x9.trans x29⟩
          |ok a29 j29 =>
           rw[hX29]at ho;rw[Bs]at ho ⊢;rintro _ ⟨_,S29,rfl,rfl,x29,c29,hi29⟩;have hp29:p<S29.next:=Ja0 hp9 x29.1;have y30:=(x9).trans x29;have br_30:=hr9.keep x29;have bd_30:=hb9.keep x29;have lz:=ldG ag49 sz49 bd_30.get rfl;obtain⟨g31,h31,gx,gc⟩:=Xg ag49 sz49 (S0:=S) c29 br_30 rfl (Ja1 _) y30 (xs:=H7 a5.text a5.pos va vb vc d9) rfl;simp only[Bz,Dz,Dl,A4,Bn,B1,By,B3,Cc,Bu,Cd,Bc,Bg,A6,A0,ofOpt,Ff,Bm,Cm,Ba,D8,reduceLT,reduceEqDiff,Aa,Ab,Ac,g2,g4,lz,g31,h31];exact⟨_,_,rfl,⟨va,vb,vc,d9,es9,rfl,hva,hvb,hvc,hq9.imp id (fun⟨tok,h,_⟩=>⟨tok,h⟩),hf9⟩,gx,gc,hi29⟩
         ·rw[q9]at ho ⊢
          simp only[A9,Df,A7];exact⟨_,rfl,x9⟩
      ·rw[if_neg hm]at ho ⊢
       rw[Bs]at ho ⊢;simp only[Bz,Dz,A4,Bn,B1,By,B3,Bv,Cc,Bu,Cd,Bc,Bg,A6,A0,A1,Ct,C9,ofOpt,Bo,Ff,C8,reduceLT,reduceEqDiff,Aa,Ab,Ac,Aj,Ak,fp0,Hl,hf4,zB,st702];refine WC.mono (K7 pc702 hp17 hi17 hts 1 0 [[118,97,114]] (by decide) hm) ?_
       rintro _ ⟨S32,rfl,x32,c32,hi32,hp32⟩;have y33:=(px702).trans x32;have bd_33:=pb702.keep x32;have br_33:=pr702.keep x32;obtain⟨S34,q34,x34,c34,bv,hp34⟩:=Dq c32 hp32 B5;have y35:=(y33).trans x34;have bd_35:=bd_33.keep x34;have br_35:=br_33.keep x34;simp only[Db,Bz,Dz,Dr,A4,Bn,B1,By,B3,Bv,Cc,Bu,Cd,Ew,Bc,Bg,A6,A0,A1,Ct,C9,ofOpt,ofOptS,Bo,Ff,C8,reduceLT,reduceEqDiff,Aa,Ab,Ac,Ag,Ah,Aj,Ak,Ty,fp0,D3,Hl,hf1,hf5,q34];refine WC.mono (Hq c34 hp34 hi32 hts 1 0 [[108,101,116]] (by decide) (by decide)) ?_
       cases hX36:B2 ts [[108,101,116]] j17 with
       |out=>exact absurd hX36 (Fa _ _ _)
       |bad a e =>
        rintro _ ⟨S36,rfl,x36⟩;simp only[A9,Bf,A7];exact⟨_,rfl,y35.trans x36⟩
       |ok a36 j36 =>
        rw[hX36]at ho;rw[Bs]at ho ⊢;rintro _ ⟨_,S36,rfl,rfl,x36,c36,hi36⟩;have hp36:p<S36.next:=Ja0 hp34 x36.1;have y37:=(y35).trans x36;have bd_37:=bd_35.keep x36;have br_37:=br_35.keep x36;simp only[Dz,Dc,Iq,A4,Bn,Bu,Cd,reduceLT,Ac];have neE:=Ep ho;refine WX.mono (fO hts h2p n hn S hp S.next S7.next (Ja1 _) y8.1 hne a5.text a5.pos va vb .nils n [] j36 _ _ .nils [] neE (by simp;omega) (by simp[T.get_set]) (by simp[T.get_set]) (by simp[T.get_set]) c36 hp36 hi36 br_37 bd_37 (.inl ⟨rfl,rfl⟩) .nil y37) ?_
        rintro _ (⟨t9,S9,d9,es9,l9,i9,rfl,g0,g2,g4,hr9,hb9,hq9,hf9,x9,c9,hi9,hp9,e9⟩ | ⟨t9,S9,a9,e9,rfl,x9,q9⟩)
        ·rw[e9]at ho ⊢
         rw[Bs]at ho ⊢;simp only[Bz,Dz,A4,Er,Ea,B1,By,Bv,Bu,Bc,Bg,A6,A0,Ct,C9,ofOpt,Bo,Ff,C8,reduceLT,reduceEqDiff,Aa,Ab,Ac,Aj,Ak,fp0,Hl,hf1,g0];refine WC.mono (Hq c9 hp9 hi9 hts 1 0 [[116,101,108]] (by decide) (by decide)) ?_
         cases hX39:B2 ts [[116,101,108]] i9 with
         |out=>exact absurd hX39 (Fa _ _ _)
         |bad a e =>
          rintro _ ⟨S39,rfl,x39⟩;simp only[A9,Bf,A7];exact⟨_,rfl,x9.trans x39⟩
         |ok a39 j39 =>
          rw[hX39]at ho;rw[Bs]at ho ⊢;rintro _ ⟨_,S39,rfl,rfl,x39,c39,hi39⟩;have hp39:p<S39.next:=Ja0 hp9 x39.1;have y40:=(x9).trans x39;have br_40:=hr9.keep x39;have bd_40:=hb9.keep x39;have lz:=ldG ag49 sz49 bd_40.get rfl;obtain⟨g41,h41,gx,gc⟩:=Xg ag49 sz49 (S0:=S) c39 br_40 rfl (Ja1 _) y40 (xs:=H7 a5.text a5.pos va vb .nils d9) rfl;simp only[Bz,Dz,Dl,A4,Bn,B1,By,B3,Cc,Bu,Cd,Bc,Bg,A6,A0,ofOpt,Ff,Bm,Cm,Ba,D8,reduceLT,reduceEqDiff,Aa,Ab,Ac,g2,g4,lz,g41,h41];exact⟨_,_,rfl,⟨va,vb,.nils,d9,es9,rfl,hva,hvb,.inl ⟨rfl,rfl⟩,hq9.imp id (fun⟨tok,h,_⟩=>⟨tok,h⟩),hf9⟩,gx,gc,hi39⟩
        ·rw[q9]at ho ⊢
         simp only[A9,Df,A7];exact⟨_,rfl,x9⟩
end
section
attribute [local go_sem] List.append_nil List.nil_append T.get_set B1 Bn Dc Bz Dz Ct Ff A6 Bg Bv By if_false if_true C9 ofOpt C8 Bu Cd Er A4 true_and Bc
inductive NodeRows:List AV→List PN→Prop where
 |nil:NodeRows [] []
 |cons (a:AV) (q:PN) (r:List AV) (l:List PN) (h:Hg a q) (h2:NodeRows r l):NodeRows (a :: r) (q :: l)
theorem NodeRows.app:∀{es:List AV} {l:List PN} {a:AV} {e:PN},NodeRows es l→Hg a e→NodeRows (es ++ [a]) (l ++ [e]):=fun {es l a e} h h2=>by
 induction es generalizing l with
 |nil=>cases h;exact .cons _ _ _ _ h2 .nil
 |cons x r ih=>cases h with
  |cons _ e2 _ l2 h3 h4=>exact .cons _ _ _ _ h3 (ih h4)
theorem NodeRows.len:∀{es:List AV} {l:List PN},NodeRows es l→es.length=l.length:=fun {es l} h=>by
 induction es generalizing l with
 |nil=>cases h;rfl
 |cons a r ih=>cases h with
  |cons _ e _ l2 h h2=>simp[ih h2]
theorem i49:(Tryz.prog.info? 38).map (fun i=>(i.zero,i.size,i.bytes))=some (some (.agg #[.string ⟨#[]⟩,.int .i64 0,.slice none 0 0,.slice none 0 0,.slice none 0 0,.slice none 0 0]),6,120):=by kernel_rfl
theorem el40:Fs Tryz.prog 23=some (none,38):=by kernel_rfl
theorem un40:Tryz.prog.underlying 23=some (.slice 38):=by kernel_rfl
theorem zr49:Kb Tryz.prog 38=some (.agg wK):=by kernel_rfl
theorem row40_1(xs:List AV)(hx:xs.length=6):Bd Tryz.prog 23 1 [(0,.agg xs)]=some (.sl 1 0 6 [.agg xs]):=by
 simp[Bd,el40,sz49,zr49,Cr,Cs,hx]
theorem app40(S:St)(a b:AV):Ej E1 S 23 23 a b=Ds Tryz.prog S 23 23 a b:=rfl
theorem push40{lo:Nat}{S:St}{tok:Nat}{es:List AV}(h:Ub 6 lo S tok es)(hn:2≤S.next)(hlo:lo≤S.next)(xs:List AV)(hx:xs.length=6)(hl:es.length≤2000000):
  ∃S',Ej E1 S 23 23 (.sl tok 0 6 es) (.sl 1 0 6 [.agg xs])=some (.sl S.next 0 6 (es ++ [.agg xs]),S')∧Ub 6 lo S' S.next (es ++ [.agg xs])∧S.next≤S'.next∧∀id,id<lo→S'.mem.get id=S.mem.get id:=by
 obtain⟨i,hi,hz0,hz1,hz2⟩:=G1 i49;have hb1:(es.length+1)*120≤140737488355328:=by omega
 have hb2:es.length+1≤9223372036854775807:=by omega
 rw[app40];rcases h with rfl | ⟨h1,h2,h3,h5⟩
 ·refine⟨S.grown 1 ((es ++ [AV.agg xs]).length*6),?_,.inr ⟨hn,hlo,Ja5 _,?_⟩,Jc9 _,fun id hid=>?_⟩
  ·simp[Ds,el40,hi,hz0,hz1,hz2,K9,un40,Value.cells,Le,hb1,hb2]
  ·show(S.mem.set S.next _).get S.next=_
   rw[T.get_set,if_pos rfl]
  ·show(S.mem.set S.next _).get id=_
   rw[T.get_set,if_neg (by omega)]
 ·obtain⟨k,rfl⟩:∃k,tok=k+2:=⟨tok - 2,by omega⟩
  refine⟨S.grown (k+2) ((es ++ [AV.agg xs]).length*6),?_,.inr ⟨hn,hlo,Ja5 _,?_⟩,Jc9 _,fun id hid=>?_⟩
  ·simp[Ds,el40,hi,hz0,hz1,hz2,K9,un40,Value.cells,Le,h5,hb1,hb2]
  ·show((S.mem.set (k+2) none).set S.next _).get S.next=_
   rw[T.get_set,if_pos rfl]
  ·show((S.mem.set (k+2) none).set S.next _).get id=_
   rw[T.get_set,if_neg (by omega),T.get_set,if_neg (by omega)]
def Jo(ts:List Tk)(N:Nat):Nat→List PN→Nat→PR (List PN)
 |0,_,_=>.out
 |n+1,l,i=>if(tk ts i).text∈[[110,111,100,101]]then(Hk ts N i).bind fun q j=>Jo ts N n (l ++ [q]) j else .ok l i
def Do(ts:List Tk)(n i:Nat):PR (List PN):=(Hk ts n i).bind fun x j=>Jo ts n n [x] j
def Lr(v:AV)(l:List PN):Prop:=∃tok off es,v=.sl tok off 6 es∧NodeRows es l
def dL:Code:=match Tryz.f62.body with
 |some (.seq _ (.seq _ (.seq (.block _ (.loop c)) _)))=>c
 |_=>.skip
def LoopProg(p k:Nat)(ts:List Tk)(S0:St)(x:PR (List PN))(r:O):Prop :=
 (∃t' S' tok es l i',r=.out (.exit 0) ⟨t',[]⟩ S'∧t'.get 3=some (.sl tok 0 6 es)∧NodeRows es l∧C4 p S0 S'∧Cur S' p k ts i'∧i'<ts.length∧p<S'.next∧x=.ok l i') ∨
 (∃t' S' a e,r=.out (.pan (Xj a e)) ⟨t',[]⟩ S'∧C4 p S0 S'∧x=.bad a e)
section
variable {p k:Nat} {ts:List Tk} (hts:TokOk ts)
include hts
theorem jY(h2p:2≤p)(N:Nat)(hN:N≤1000000)(S0:St)(hp0:p<S0.next):∀(n:Nat) (l:List PN) (i:Nat) (t:T AV) (S:St) (tok:Nat) (es:List AV),Jo ts N n l i≠.out→n+l.length≤2000000 →
  t.get 0=some (.ptr p 0)→t.get 3=some (.sl tok 0 6 es)→Cur S p k ts i→p<S.next→i<ts.length→Ub 6 S0.next S tok es→NodeRows es l→C4 p S0 S →
  WX E1 18 (.loop dL) ⟨t,[]⟩ S (LoopProg p k ts S0 (Jo ts N n l i))
 |0,l,i,t,S,tok,es,ho,hnl,h0,h3,h,hp,hi,hr,hf,hx=>absurd rfl ho
 |n+1,l,i,t,S,tok,es,ho,hnl,h0,h3,h,hp,hi,hr,hf,hx=>by
  refine Bt (Bp ?_);obtain⟨fn1,hf1⟩:=fX 112;obtain⟨fn2,hf2⟩:=fX 111;have eP:Jo ts N (n+1) l i=if(tk ts i).text∈[[110,111,100,101]]then(Hk ts N i).bind fun q j=>Jo ts N n (l ++ [q]) j else .ok l i:=rfl
  rw[eP]at ho ⊢;clear eP;have e0:=Gy hi;simp only[go_sem,Bo,reduceLT,reduceEqDiff,Tryz.f62,fp0,Hl,hf1,h0,dL];refine WC.mono (O9 _ p k ts i h hp hi 1 0 [[110,111,100,101]] (by decide)) ?_
  rintro _ ⟨S1,rfl,k1⟩;have x1:=k1.x p;have c1:=h.keep hp k1;have hp1:p<S1.next:=Ja0 hp x1.1;have y2:=(hx).trans x1;rw[← e0]
  by_cases hm:(tk ts i).text∈[[110,111,100,101]]
  ·rw[if_pos hm]at ho ⊢
   rw[decide_eq_true hm];simp only[go_sem,De,Db,Dr,Hj,Fi,reduceLT,reduceEqDiff,hf2,h0,h3];have ne1:=Ep ho;refine WC.mono (node_p hts h2p N hN _ _ c1 hp1 hi ne1) ?_
   cases hX3:Hk ts N i with
   |out=>exact absurd hX3 ne1
   |bad a e =>
    rintro _ ⟨S3,rfl,x3⟩;simp only[Ib,Df,Bf];exact .inr ⟨_,_,_,_,rfl,y2.trans x3,rfl⟩
   |ok a3 j3 =>
    rw[hX3]at ho;rw[Bs]at ho ⊢;rintro _ ⟨v9,S3,rfl,hv9,x3,c3,hi3⟩;obtain⟨xs,rfl,hxl⟩:∃xs,v9=.agg xs∧xs.length=6:=by obtain⟨a,b,c,d,es,e,_⟩:=hv9;exact⟨_,e,rfl⟩
    have hp3:p<S3.next:=Ja0 hp1 x3.1;have y4:=(y2).trans x3;have rw1:=row40_1 xs hxl;have hr2:Ub 6 S0.next S3 tok es:=hr.keep ((x1).trans x3) hp0;have hle:=y4.1;obtain⟨S5,a5,r5,n5,k5⟩:=push40 hr2 (by omega) hle xs hxl (by rw[hf.len];omega)
    have z9:C4 p S0 S5:=⟨Jb2 hle n5,fun id hid hn=>(k5 id hid).trans (y4.2 id hid hn)⟩
    have c9:Cur S5 p k ts j3:=(k5 p hp0).trans c3;simp only[go_sem,C7,Cq,ofOptS,reduceLT,reduceEqDiff,rw1,a5];exact jY h2p N hN S0 hp0 n _ _ _ _ _ _ ho (by rw[Ja3];simp;omega) (by simp[T.get_set,h0]) (by simp[T.get_set]) c9 (by omega) hi3 r5 (hf.app hv9) z9
  ·rw[if_neg hm]at ho ⊢
   rw[decide_eq_false hm];simp only[go_sem,De,Db,Dr,Hj,Ew,reduceLT,reduceEqDiff,hf2,h0,h3];exact .inl ⟨_,_,tok,es,l,i,rfl,by simp[T.get_set,h3],hf,y2,c1,hi,hp1,rfl⟩
theorem program_p(h2p:2≤p)(n:Nat)(hn:n≤1000000)(S:St)(i:Nat)(h:Cur S p k ts i)(hp:p<S.next)(hi:i<ts.length)(ho:Do ts n i≠.out):WC E1 62 [.ptr p 0] S (Ot p k ts S Lr (Do ts n i)):=by
 have eP:Do ts n i=(Hk ts n i).bind fun x j=>Jo ts n n [x] j:=rfl
 rw[eP]at ho ⊢;clear eP;refine WCk Tryz.f62 ?_;obtain⟨fn2,hf2⟩:=fX 111;simp only[go_sem,Cx,A1,Bo,reduceLT,reduceEqDiff,Ae,Tryz.f62,hf2];have ne1:=Ep ho;refine WC.mono (node_p hts h2p n hn _ _ h hp hi ne1) ?_
 cases hX1:Hk ts n i with
 |out=>exact absurd hX1 ne1
 |bad a e =>
  rintro _ ⟨S1,rfl,x1⟩;simp only[A9,Bf,A7];exact⟨_,rfl,x1⟩
 |ok a1 j1 =>
  rw[hX1]at ho;rw[Bs]at ho ⊢;rintro _ ⟨v9,S1,rfl,hv9,x1,c1,hi1⟩;obtain⟨xs,rfl,hxl⟩:∃xs,v9=.agg xs∧xs.length=6:=by obtain⟨a,b,c,d,es,e,_⟩:=hv9;exact⟨_,e,rfl⟩
  have hp1:p<S1.next:=Ja0 hp x1.1;have rw1:=row40_1 xs hxl;simp only[go_sem,Iq,A1,reduceLT,reduceEqDiff,rw1];refine WX.mono (jY hts h2p n hn S hp n [a1] j1 _ _ 1 [.agg xs] ho (by simp;omega) (by simp[T.get_set]) (by simp[T.get_set]) c1 hp1 hi1 (.inl rfl) (.cons _ _ _ _ hv9 .nil) x1) ?_
  rintro _ (⟨t9,S9,tok9,es9,l9,i9,rfl,g3,hf9,x9,c9,hi9,hp9,e9⟩ | ⟨t9,S9,a9,e9,rfl,x9,q9⟩)
  ·rw[e9]
   simp only[go_sem,Dl,Ea,Bm,Cm,Ba,D8,reduceLT,reduceEqDiff,g3];exact⟨_,_,rfl,⟨tok9,0,es9,rfl,hf9⟩,x9,c9,hi9⟩
  ·rw[q9]
   simp only[A9,Df,A7];exact⟨_,rfl,x9⟩
end
end
end Go.Ax
noncomputable section
namespace Go.Ax
open Go.RowKit
def vL(E:Env)(k:FuncId)(args:List AV)(S:St)(m:Option AV)(K:St→Prop):Prop :=
 ∃fn id ops rest o d,E.F k=some fn∧fn.body=some (.seq (.region id ops false) rest)∧ops.toList=[o]∧Y1 o=some d∧args.length≤fn.ntmps∧d<fn.ntmps∧fn.results.toList=[] ∧
  WX E fn.ntmps rest ⟨(Cx args 0).set d (some (m.getD (.v .nilIface))),[]⟩ S (fun r=>∃f' S',(r=.out .normal f' S'∨r=.out .ret f' S')∧f'.dfr=[]∧K S')
def Vj(E:Env)(rs:List ResultVar)(f:Fr)(S:St)(Q:R→Prop):Prop:=match Ba E f.tmps S rs with
 |some l=>Q (.ret (D8 l) S)
 |none=>False
def finD(E:Env)(rs:List ResultVar)(Q:R→Prop):O→Prop
 |.out e f S=>match f.dfr with
  | []=>U6 E rs Q (.out e f S)
  | [⟨.func k,caps,args⟩]=>match e with
   |.normal=>vL E k (args ++ caps) S none (fun S'=>Vj E rs f S' Q)
   |.ret=>vL E k (args ++ caps) S none (fun S'=>Vj E rs f S' Q)
   |.pan a=>vL E k (args ++ caps) S (some a) (fun S'=>Vj E rs f S' Q)
   |_=>False
  |_=>False
 |.fail=>False
theorem V6{E:Env}{k:FuncId}{args:List AV}{S:St}{m:Option AV}{K:St→Prop}(h:vL E k args S m K):∃S' m0,K S'∧∀n,m0≤n→vM E (run E (Bb E) n) k args S m=.ok m.isSome S':=by
 obtain⟨fn,id,ops,rest,o,d,h1,h2,h3,h4,h5,h6,h7,r,⟨m0,hm⟩,f',S',hr,hd,hK⟩:=h;refine⟨S',m0,hK,fun n hn=>?_⟩
 have hx:=hm n hn;unfold vM;simp only[h1,h2,h3,h4];rw[if_pos ⟨h5,h6⟩,hx];rcases hr with rfl |rfl <;> simp only[hd,h7]
theorem WC_dfr{E:Env}{k:FuncId}{args:List AV}{S:St}{Q:R→Prop}(fn:Func)(hI:E.I k=none)(hF:E.F k=some fn)(hb:fn.body.isSome=true)(hl:args.length≤fn.ntmps)
  (h:WX E fn.ntmps (fn.body.getD .skip) ⟨Cx args 0,[]⟩ S (finD E fn.results.toList Q)):WC E k args S Q:=by
 obtain⟨r,⟨m0,hm⟩,hq⟩:=h;obtain⟨c,hc⟩:=Jc0.1 hb
 have key:∀m,m0≤m→ckN E m k args S=Q7 E (run E (Bb E) m) fn r:=fun m hmm=>by
  show Jc E (run E (Bb E) m) k args S=_
  unfold Jc;rw[hI,hF];simp only[hc,if_pos hl];have:=hm m hmm;rw[hc]at this;rw[show run E (Bb E) m fn.ntmps c ⟨Cx args 0,[]⟩ S=r from this]
 cases r with
 |fail=>exact hq.elim
 |out e f' S' =>
  simp only[finD]at hq
  split at hq
  ·rename_i hd
   have give:∀(S':St),Cm E fn.results.toList f' S' Q→∃l,Ba E f'.tmps S' fn.results.toList=some l∧Q (.ret (D8 l) S'):=fun S' hg=>by
    unfold Cm at hg
    split at hg
    ·rename_i l h1 h2;exact⟨l,h2,hg⟩
    ·exact hg.elim
   cases e with
   |normal =>
    obtain⟨l,h2,h3⟩:=give S' hq;exact⟨_,⟨m0,fun m hmm=>by rw[key m hmm];simp only[Q7,hd,Kl,h2]⟩,h3⟩
   |ret =>
    obtain⟨l,h2,h3⟩:=give S' hq;exact⟨_,⟨m0,fun m hmm=>by rw[key m hmm];simp only[Q7,hd,Kl,h2]⟩,h3⟩
   |pan a=>exact⟨_,⟨m0,fun m hmm=>by rw[key m hmm];simp only[Q7,hd]⟩,hq.2⟩
   |exit id=>exact hq.elim
  ·rename_i k' caps args' hd
   have give:∀(S':St),Vj E fn.results.toList f' S' Q→∃l,Ba E f'.tmps S' fn.results.toList=some l∧Q (.ret (D8 l) S'):=fun S' hg=>by
    unfold Vj at hg
    split at hg
    ·rename_i l h2;exact⟨l,h2,hg⟩
    ·exact hg.elim
   cases e with
   |normal =>
    obtain⟨S2,m1,hK,h1⟩:=V6 hq;obtain⟨l,h2,h3⟩:=give S2 hK;exact⟨_,⟨max m0 m1,fun m hmm=>by rw[key m (by omega)];simp only[Q7,hd,h1 m (by omega),Kl,h2]⟩,h3⟩
   |ret =>
    obtain⟨S2,m1,hK,h1⟩:=V6 hq;obtain⟨l,h2,h3⟩:=give S2 hK;exact⟨_,⟨max m0 m1,fun m hmm=>by rw[key m (by omega)];simp only[Q7,hd,h1 m (by omega),Kl,h2]⟩,h3⟩
   |pan a =>
    obtain⟨S2,m1,hK,h1⟩:=V6 hq;obtain⟨l,h2,h3⟩:=give S2 hK;exact⟨_,⟨max m0 m1,fun m hmm=>by rw[key m (by omega)];simp only[Q7,hd,h1 m (by omega),Kl,h2]⟩,h3⟩
   |exit id=>exact hq.elim
  ·exact hq.elim
end Go.Ax
noncomputable section
namespace Go.Ax
open Go.RowKit Go.Proofs
set_option maxRecDepth 100000
section
attribute [local go_sem] Bool.false_eq_true List.append_nil List.nil_append Option.getD_some T.get_leaf T.get_set B1 Bn Dr Bz Dz Ct Fi Ff A6 Bg By if_false if_true Cx C9 Bo ofOpt Bu A4 true_and Bc
theorem end_w(S:St)(p k:Nat)(ts:List Tk)(i:Nat)(h:Cur S p k ts i)(hp:p<S.next)(hi:i<ts.length):WC E1 110 [.ptr p 0] S (fun r=>∃S',Dm S S'∧((tk ts i).kind=5∧r=.ret (.tup []) S'∨(tk ts i).kind≠5∧r=.pan (Xj (tk ts i).pos (Hc (tk ts i))) S')):=by
 refine WCk Tryz.f110 ?_;obtain⟨fn1,hf1⟩:=fX 167;obtain⟨fn2,hf2⟩:=fX 168;have e0:=Gy hi;simp only[go_sem,Bv,reduceLT,reduceEqDiff,Tryz.f110,hf1];refine WC.mono (W4 _ p k ts i h hp hi) ?_;rintro _ ⟨S2,rfl,hk⟩
 by_cases h5:(tk ts i).kind=5
 ·have n5:(((ts[i].kind:Nat):Int) != 5)=false:=by rw[← e0,h5];rfl
  simp only[go_sem,Db,Cd,Ew,Em,Fb,reduceLT,reduceEqDiff,Us,Bk,n5];exact⟨_,hk,.inl ⟨h5,rfl⟩⟩
 ·have n5:(((ts[i].kind:Nat):Int) != 5)=true:=by rw[← e0,bne_iff_ne];omega
  simp only[go_sem,Db,Bv,Cd,Em,Fb,reduceLT,reduceEqDiff,Us,Bk,n5,hf2];refine WC.mono (dI S2 p k ts i (h.keep hp hk) (Ja0 hp hk.1) hi) ?_;rintro _ ⟨S3,rfl,hk3⟩;simp only[Bf,A7];exact⟨_,hk.trans hk3,.inr ⟨h5,by rw[e0]⟩⟩
def nilT(r:OR)(S:St)(x:Option AV):OR:=match x with
 |some (.v .nilIface)=>.val (.v (.bool true)) S
 |_=>r
theorem eqOr20(f:T AV)(S:St)(k:Nat)(dst:Option Tmp)(ty:TypeId)(pos:String)(af:Array Edge)(gd:Option (Nat × Bool)):
  U7 Tryz.prog gR f S { dst:=dst,op:=.binOp .eql 20 (.tmp k) (.const .nilIface) 20,type:=ty,pos:=pos,after:=af,guard:=gd } .eql 20 (.v .nilIface) (.v .nilIface) =
  nilT (eqOrX Tryz.prog gR f S { dst:=dst,op:=.binOp .eql 20 (.tmp k) (.const .nilIface) 20,type:=ty,pos:=pos,after:=af,guard:=gd } .eql 20 (.v .nilIface) (.v .nilIface)) S (f.get k):=by
 unfold nilT
 split
 ·rename_i hf
  have h0:Y7 Tryz.prog .eql 20 (.v .nilIface) (.v .nilIface)=none:=by kernel_rfl
  unfold U7;rw[h0];have hg:B8 gR f (.tmp k)=some .nilIface:=by unfold B8;simp only[A6,hf];rfl
  have hc:B8 gR f (.const .nilIface)=some .nilIface:=rfl;unfold ground;simp only[Op.operands,List.all_cons,List.all_nil,hg,hc,Option.isSome_some,Bool.and_self,Aa]
  have e:execOp (fun x=>(B8 gR f x).getD undef) { dst:=dst,op:=.binOp .eql 20 (.tmp k) (.const .nilIface) 20,type:=ty,pos:=pos,after:=af,guard:=gd }=execOp (fun _=>.nilIface) { dst:=none,op:=.binOp .eql 20 (.tmp 29) (.const .nilIface) 20,type:=4,pos := "", after:=#[],guard:=none }:=by
   simp only[execOp,hg,hc,Ae];rfl
  rw[e];have e3:(Qv Tryz.prog 4000 (execOp (fun _=>Value.nilIface) { dst:=none,op:=.binOp .eql 20 (.tmp 29) (.const .nilIface) 20,type:=4,pos := "", after:=#[],guard:=none }))=some (.bool true):=by kernel_rfl
  rw[e3];rfl
 ·rfl
theorem nilT_nil(r:OR)(S:St):nilT r S (some (.v .nilIface))=.val (.v (.bool true)) S:=rfl
theorem fbNilT:Cv .eql (.v .nilIface) (.v .nilIface)=none:=rfl
theorem as33(a e:Nat):W3 Tryz.prog 29 true (.iface 29 (.agg (D0 a e)))=some (.tup [.agg (D0 a e),.v (.bool true)]):=by kernel_rfl
theorem nn20:Ha Tryz.prog 20 (.v .nilIface) (.v .nilIface)=false:=by kernel_rfl
theorem nn20i(t:TypeId)(a:AV):Ha Tryz.prog 20 (.iface t a) (.v .nilIface)=true:=by kernel_rfl
theorem recov_nil(S:St)(b:Nat)(K:St→Prop)(hK:K S):vL E1 109 [.ptr b 0] S none K:=by
 refine⟨Tryz.f109,_,_,_,_,_,by kernel_rfl,rfl,rfl,rfl,(by show(_:Nat)≤_;simp[Tryz.f109]),(show(_:Nat)<_ from by show(_:Nat)<_;simp[Tryz.f109]),rfl,Bp ?_⟩
 simp only[go_sem,Dc,Cq,Ms,reduceLT,reduceEqDiff,Tryz.f109,nn20,fbNilT,eqOr20,nilT_nil,Option.getD_none];exact⟨_,_,.inl rfl,rfl,hK⟩
theorem jU(S:St)(b a e:Nat)(cs:List AV)(hb:S.mem.get b=some (.box cs))(hl:cs.length=2)(hbn:b<S.next)(K:St→Prop)(hK:∀S',S'.mem.get b=some (.box (D0 a e))→S.next≤S'.next→(∀id,id<S.next→id≠b→S'.mem.get id=S.mem.get id)→K S'):vL E1 109 [.ptr b 0] S (some (Xj a e)) K:=by
 refine⟨Tryz.f109,_,_,_,_,_,by kernel_rfl,rfl,rfl,rfl,(by show(_:Nat)≤_;simp[Tryz.f109]),(show(_:Nat)<_ from by show(_:Nat)<_;simp[Tryz.f109]),rfl,Bp ?_⟩
 unfold Xj;have q1:Bl Tryz.prog (S.newBox (D0 0 0)) 29 (.ptr S.next 0) (.agg (D0 a e))=some ((S.newBox (D0 0 0)).put S.next (D0 a e)):=cM (Co S _) rfl rfl;have q2:=Pi (S.newBox (D0 0 0)) S.next (D0 a e) rfl;have q3:Bl Tryz.prog ((S.newBox (D0 0 0)).put S.next (D0 a e)) 29 (.ptr b 0) (.agg (D0 a e))=some (((S.newBox (D0 0 0)).put S.next (D0 a e)).put b (D0 a e)):=cM ((D9 (by omega)).trans ((Gr hbn).trans hb)) hl rfl
 simp only[go_sem,Dc,Cq,Df,B3,J8,Cc,Ew,ofOptS,Ms,reduceLT,reduceEqDiff,Ag,Ah,Tryz.f109,nn20i,as33,al33,D3,q1,q2,q3];exact⟨_,_,.inl rfl,rfl,hK _ (Dv _ _ _) (by rw[Ik];exact Jc9 _) (fun id hid hn=>(D9 hn).trans ((D9 (by omega)).trans (Gr hid)))⟩
end
section
attribute [local go_sem] List.append_nil List.getElem?_cons_succ List.getElem?_cons_zero List.nil_append T.get_leaf T.get_set B1 Bn Bz Dl Dz al33 Ct Ff A6 Bg Bv B3 By if_false if_true C9 Bo ofOpt ofOptS C8 Cc Bu Cd A4 true_and Bc
section
variable {p k:Nat} {ts:List Tk} (hts:TokOk ts)
include hts
theorem whole_p(h2p:2≤p)(n:Nat)(hn:n≤1000000)(S:St)(i:Nat)(h:Cur S p k ts i)(hp:p<S.next)(hi:i<ts.length)(ho:Do ts n i≠.out):WC E1 61 [.ptr p 0] S (Ot p k ts S Lr (Do ts n i)):=by
 refine WCk Tryz.f61 ?_;obtain⟨fn1,hf1⟩:=fX 62;simp only[go_sem,Cx,reduceLT,reduceEqDiff,Ae,Tryz.f61,hf1];refine WC.mono (program_p hts h2p n hn S i h hp hi ho) ?_
 cases hX:Do ts n i with
 |out=>exact absurd hX ho
 |bad a e =>
  rintro _ ⟨S4,rfl,x4⟩;simp only[A9,Bf,A7];exact⟨_,rfl,x4⟩
 |ok a j =>
  rintro _ ⟨v,S4,rfl,hr,x4,c4,hj⟩;simp only[go_sem,Bm,Cm,Ba,D8,reduceLT,reduceEqDiff];exact⟨_,_,rfl,hr,x4,c4,hj⟩
end
theorem finD_ret0{E:Env}{rs:List ResultVar}{Q:R→Prop}{t:T AV}{S:St}:finD E rs Q (.out .ret ⟨t,[]⟩ S)=Cm E rs ⟨t,[]⟩ S Q:=id rfl
theorem lM{E:Env}{rs:List ResultVar}{Q:R→Prop}{t:T AV}{S:St}{k:FuncId}{caps args:List AV}{a:AV}:finD E rs Q (.out (.pan a) ⟨t,[⟨.func k,caps,args⟩]⟩ S)=vL E k (args ++ caps) S (some a) (fun S'=>Vj E rs ⟨t,[⟨.func k,caps,args⟩]⟩ S' Q):=id rfl
theorem ag33:B9 Tryz.prog 29=some true:=by kernel_rfl
theorem fa33_1(b:Nat):A3 Tryz.prog 29 (.ptr b 0) 1=some (.ptr b 1):=by kernel_rfl
theorem ld31f{S:St}{id a e:Nat}(h:S.mem.get id=some (.box (D0 a e))):A8 Tryz.prog S 27 (.ptr id 1)=some (.v (.int .i64 (e:Int))):=by
 have a31:B9 Tryz.prog 27=some false:=by kernel_rfl
 simp[A8,Ca,h,a31,D0,Bk]
theorem b144(tok:Nat)(es:List AV):Du Tryz.prog 187 [(0,.sl tok 0 4 es)]=some (.agg [.sl tok 0 4 es,Bk 0]):=by kernel_rfl
theorem b146t(tok:Nat)(es:List AV):Du Tryz.prog 189 [(0,.agg [.sl tok 0 4 es,Bk 0])]=some (.agg [.sl tok 0 4 es,Bk 0]):=by kernel_rfl
def Lf(n:Nat)(out:(Nat × Nat) ⊕ List Tk):Option (List PN ⊕ (Nat × Nat)):=match out with
 |.inl x=>some (.inr x)
 |.inr ts=>match Do ts n 0 with
  |.ok l j=>if(tk ts j).kind=5 then some (.inl l)else some (.inr ((tk ts j).pos,Hc (tk ts j)))
  |.bad a e=>some (.inr (a,e))
  |.out=>none
def wE(S:St)(x:Option (List PN ⊕ (Nat × Nat)))(r:R):Prop:=match x with
 |some (.inl l)=>∃v S',r=.ret (.tup [v,.agg (D0 0 0)]) S'∧Lr v l∧Dm S S'
 |some (.inr y)=>∃S',r=.ret (.tup [.nils,.agg (D0 y.1 y.2)]) S'∧Dm S S'
 |none=>True
theorem read_p(l:List UInt8)(S:St)(hS:2≤S.next)(hsz:l.length≤1000000)(out:(Nat × Nat) ⊕ List Tk)(hlx:Iw l=some out)(hx:∀x,out=.inl x→x.2≠0)(n:Nat)(hn:n≤1000000)(hok:∀ts,out=.inr ts→TokOk ts∧0<ts.length∧Do ts n 0≠.out):WC E1 60 [A2 l,.fn (.func 61) [] []] S (wE S (Lf n out)):=by
 refine WC_dfr Tryz.f60 (by kernel_rfl) (by kernel_rfl) (by kernel_rfl) (by show(_:Nat)≤_;simp[Tryz.f60]) (Bp ?_)
 obtain⟨fn1,hf1⟩:=fX 108;obtain⟨fn2,hf2⟩:=fX 61;obtain⟨fn3,hf3⟩:=fX 110;have k1:=Ce S (D0 0 0);simp only[go_sem,Cx,reduceLT,Nat.reduceAdd,reduceEqDiff,Ae,Tryz.f60,hf1];refine WC.mono (all_w l (S.newBox (D0 0 0)) (Nat.le_succ_of_le hS) hsz out hlx) ?_
 cases out with
 |inl x =>
  rintro _ ⟨S2,rfl,k2⟩;have hx2:=hx x rfl;have q1:Bl Tryz.prog (S2.newBox (D0 0 0)) 29 (.ptr S2.next 0) (.agg (D0 x.1 x.2))=some ((S2.newBox (D0 0 0)).put S2.next (D0 x.1 x.2)):=cM (Co S2 _) rfl rfl;have g1:=Dv (S2.newBox (D0 0 0)) S2.next (D0 x.1 x.2);have k3:Dm S2 ((S2.newBox (D0 0 0)).put S2.next (D0 x.1 x.2)):=Dj (Ce S2 _) (Ja1 _) _;generalize hS3:(S2.newBox (D0 0 0)).put S2.next (D0 x.1 x.2)=S3 at q1 g1 k3;have q2:=ld31f g1;have n1:(((x.2:Nat):Int) != 0)=true:=by rw[bne_iff_ne];omega
  have q3:=ldG ag33 s33 g1 rfl;have g5:S3.mem.get S.next=some (.box (D0 0 0)):=((k2.trans k3).2 _ (Ja5 _)).trans (Co S _);have q4:Bl Tryz.prog S3 29 (.ptr S.next 0) (.agg (D0 x.1 x.2))=some (S3.put S.next (D0 x.1 x.2)):=cM g5 rfl rfl;have q5:=Pi S3 S.next (D0 x.1 x.2) rfl;simp only[go_sem,Db,Eh,Dr,Fi,Fb,reduceLT,reduceEqDiff,Am,D3,lO,V7,q1,fa33_1,q2,aZ,n1];refine Dd [(0,true),(1,true),(2,true),(3,true)] (by kernel_rfl) (by kernel_rfl) ?_
  simp only[go_sem,F8,Cm,Ba,D8,reduceLT,reduceEqDiff,Af,Jy,Ir,I1,Jv,Js,Hw,H9,Mp,q3,q4,q5,finD_ret0];exact⟨_,rfl,Dj (k1.trans (k2.trans k3)) (Ja1 _) _⟩
 |inr ts =>
  rintro _ ⟨S2,tok,rfl,k2⟩;obtain⟨hts,h0,hpo⟩:=hok ts rfl;have q1:Bl Tryz.prog (S2.newBox (D0 0 0)) 29 (.ptr S2.next 0) (.agg (D0 0 0))=some ((S2.newBox (D0 0 0)).put S2.next (D0 0 0)):=cM (Co S2 _) rfl rfl;have g1:=Dv (S2.newBox (D0 0 0)) S2.next (D0 0 0);have k3:Dm S2 ((S2.newBox (D0 0 0)).put S2.next (D0 0 0)):=Dj (Ce S2 _) (Ja1 _) _;generalize hS3:(S2.newBox (D0 0 0)).put S2.next (D0 0 0)=S3 at q1 g1 k3;have q2:=ld31f g1;have n1:(((0:Nat):Int) != 0)=false:=rfl;have g5:S3.mem.get S.next=some (.box (D0 0 0)):=((k2.trans k3).2 _ (Ja5 _)).trans (Co S _);have l5:S.next<S3.next:=Ja0 (Ja5 _) (k2.trans k3).1;have kk:=k1.trans (k2.trans k3);simp only[go_sem,Db,Eh,Dr,Ew,Fb,reduceLT,reduceEqDiff,Am,D3,lO,V7,q1,fa33_1,q2,aZ,n1,b144,b146t,Cr,Cs,hf2];have cu:Cur (S3.newBox [.sl tok 0 4 (ts.map C6),Bk 0]) S3.next tok ts 0:=Co S3 _;have k4:=Ce S3 [.sl tok 0 4 (ts.map C6),Bk 0];have b5:Has S3.next (S3.newBox [.sl tok 0 4 (ts.map C6),Bk 0]) S.next (D0 0 0):=⟨(k4.2 _ l5).trans g5,Jb0 l5,by omega⟩
  have toK:∀S',C4 S3.next (S3.newBox [.sl tok 0 4 (ts.map C6),Bk 0]) S'→Dm S3 S':=fun S' x=>⟨Jb2 (Jc9 _) x.1,fun id hid=>(x.2 id (Jb0 hid) (by omega)).trans (k4.2 id hid)⟩
  refine WC.mono (whole_p hts (Jb2 hS kk.1) n hn _ 0 cu (Ja5 _) h0 hpo) ?_
  have eR:Lf n (.inr ts)=match Do ts n 0 with
   |.ok l j=>if(tk ts j).kind=5 then some (.inl l)else some (.inr ((tk ts j).pos,Hc (tk ts j)))
   |.bad a e=>some (.inr (a,e))
   |.out=>none:=rfl
  rw[eR];clear eR
  cases hX:Do ts n 0 with
  |out=>exact absurd hX hpo
  |bad a e =>
   rintro _ ⟨S5,rfl,x5⟩;have b6:=b5.keep x5;simp only[A9,Bf,Aj,lM];refine jU S5 S.next a e (D0 0 0) b6.get rfl b6.lt _ ?_;intro S6 g6 n6 k6;have q6:=ldG ag33 s33 g6 rfl;unfold Vj;simp only[A0,A1,Ff,Ba,D8,reduceEqDiff,Aa,Ab,q6];refine⟨_,rfl,Jb2 (kk.trans (toK S5 x5)).1 n6,fun id hid=>?_⟩
   rw[k6 id (Ja0 hid (kk.trans (toK S5 x5)).1) (by omega)]
   exact(kk.trans (toK S5 x5)).2 id hid
  |ok l j =>
   rintro _ ⟨v,S5,rfl,hv,x5,c5,hj⟩;have b6:=b5.keep x5;simp only[go_sem,reduceLT,reduceEqDiff,fp0,hf3];refine WC.mono (end_w S5 _ _ ts j c5 (Ja0 (Ja5 _) x5.1) hj) ?_;rintro _ ⟨S6,k6,⟨h5,rfl⟩ | ⟨h5,rfl⟩⟩
   ·rw[show(if(tk ts j).kind=5 then some (.inl l)else some (.inr ((tk ts j).pos,Hc (tk ts j))):Option (List PN ⊕ (Nat × Nat)))=some (.inl l) from if_pos h5]
    have b7:=b6.keep (k6.x _);have q7:Bl Tryz.prog S6 29 (.ptr S.next 0) (.agg (D0 0 0))=some (S6.put S.next (D0 0 0)):=cM b7.get rfl rfl;have q8:=Pi S6 S.next (D0 0 0) rfl;simp only[go_sem,reduceLT,reduceEqDiff,b33_0,q7];refine recov_nil _ S.next _ ?_;unfold Vj;simp only[A0,A1,Ff,Ba,D8,reduceEqDiff,Aa,Ab,q8];exact⟨v,_,rfl,hv,Dj (kk.trans ((toK S5 x5).trans k6)) (Ja1 _) _⟩
   ·rw[show(if(tk ts j).kind=5 then some (.inl l)else some (.inr ((tk ts j).pos,Hc (tk ts j))):Option (List PN ⊕ (Nat × Nat)))=some (.inr ((tk ts j).pos,Hc (tk ts j))) from if_neg h5]
    have b7:=b6.keep (k6.x _);simp only[A9,Bf,Aj,lM];refine jU S6 S.next (tk ts j).pos (Hc (tk ts j)) (D0 0 0) b7.get rfl b7.lt _ ?_;intro S7 g7 n7 k7;have q9:=ldG ag33 s33 g7 rfl;unfold Vj;simp only[A0,A1,Ff,Ba,D8,reduceEqDiff,Aa,Ab,q9];have ka:=kk.trans ((toK S5 x5).trans k6);refine⟨_,rfl,Jb2 ka.1 n7,fun id hid=>?_⟩
    rw[k7 id (Ja0 hid ka.1) (by omega)]
    exact ka.2 id hid
end
theorem kM{l:List UInt8}{i:Nat}{t:Tk}(h:Fx l i=some (t,0)):t.kind≠5:=by
 unfold Fx at h
 split at h
 ·cases h
 ·rename_i b r
  split at h
  ·injection h with h
   unfold Kd at h
   split at h
   ·injection h with h1 h2;subst h1;exact fun e=>by cases e
   ·split at h
    ·injection h with h1 h2;cases h2
    ·injection h with h1 h2;subst h1;exact fun e=>by cases e
  ·split at h
   ·unfold Sk at h
    split at h
    ·injection h with h;injection h with h1 h2;cases h2
    ·split at h
     ·split at h
      ·injection h with h;injection h with h1 h2;cases h2
      ·injection h with h;injection h with h1 h2;subst h1;exact fun e=>by cases e
     ·injection h with h;injection h with h1 h2;cases h2
   ·injection h with h
    unfold J2 at h
    split at h
    ·injection h with h1 h2;subst h1;exact fun e=>by cases e
    ·injection h with h1 h2;cases h2
theorem allF_ok(l:List UInt8):∀(n i:Nat) (ts:List Tk),L9 l n i=some (.inr ts)→0<ts.length∧(∀j (h:j<ts.length),ts[j].kind≠5→j+1<ts.length)∧(∀j (h:j<ts.length),ts[j].kind=5→ts[j].text=[])∧ts.length≤n
 |0,i,ts,h=>by cases h
 |n+1,i,ts,h=>by
  unfold L9 at h
  split at h
  ·split at h
   ·cases h
   ·rename_i p hp
    split at h
    ·rename_i he
     split at h
     ·cases h
     ·cases h
     ·rename_i ts2 h2
      injection h with h;injection h with h;subst h
      obtain⟨a1,a2,a3,a4⟩:=allF_ok l n _ ts2 h2;have hk:p.1.kind≠5:=kM (i:=i) (by rw[hp,← he])
      refine⟨by simp,fun j hj hne=>?_,fun j hj he5=>?_,by simp;omega⟩
      ·cases j with
       |zero=>simp;omega
       |succ j =>
        have:=a2 j (by simpa using hj) (by simpa using hne)
        simp;omega
      ·cases j with
       |zero=>exact absurd he5 hk
       |succ j=>exact a3 j (by simpa using hj) (by simpa using he5)
    ·cases h
  ·injection h with h;injection h with h;subst h
   refine⟨by simp,fun j hj hne=>?_,fun j hj he5=>?_,by simp⟩
   ·have:j=0:=by simp at hj;exact hj
    subst this;exact absurd rfl hne
   ·have:j=0:=by simp at hj;exact hj
    subst this;rfl
theorem wB(l:List UInt8):∀(n i:Nat) (x:Nat × Nat),L9 l n i=some (.inl x)→x.2≠0
 |0,i,x,h=>by cases h
 |n+1,i,x,h=>by
  unfold L9 at h
  split at h
  ·split at h
   ·cases h
   ·rename_i p hp
    split at h
    ·split at h
     ·cases h
     ·rename_i y h2
      injection h with h;injection h with h;subst h
      exact wB l n _ _ h2
     ·cases h
    ·rename_i he
     injection h with h;injection h with h;subst h
     exact he
  ·cases h
theorem Xa{l:List UInt8}{ts:List Tk}(h:Iw l=some (.inr ts)):TokOk ts∧0<ts.length:=by
 unfold Iw at h
 split at h
 ·cases h
 ·obtain⟨a1,a2,a3,a4⟩:=allF_ok l _ _ ts h
  exact⟨⟨a2,a3,by omega⟩,a1⟩
theorem lexL_bad{l:List UInt8}{x:Nat × Nat}(h:Iw l=some (.inl x)):x.2≠0:=by
 unfold Iw at h
 split at h
 ·injection h with h;injection h with h;subst h;exact fun e=>by cases e
 ·exact wB l _ _ x h
section
attribute [local go_sem] List.getElem?_cons_succ List.getElem?_cons_zero T.get_leaf T.get_set B1 Bn Ff A6 Bg By if_false if_true ofOpt Bu A4 true_and Bc
theorem dR(l:List UInt8)(S:St)(hS:2≤S.next)(hsz:l.length≤1000000)(out:(Nat × Nat) ⊕ List Tk)(hlx:Iw l=some out)(n:Nat)(hn:n≤1000000)(hok:Lf n out≠none):WC E1 18 [A2 l] S (wE S (Lf n out)):=by
 refine WCk Tryz.f18 ?_;obtain⟨fn1,hf1⟩:=fX 60;have k1:=Ce S (D0 0 0);simp only[go_sem,Bz,Dz,Bv,Cx,Ct,C9,ofOptS,Bo,reduceLT,reduceEqDiff,Ae,Aj,Ak,Tryz.f18,al33,hf1];refine WC.mono (read_p l (S.newBox (D0 0 0)) (Nat.le_succ_of_le hS) hsz out hlx (fun x e=>lexL_bad (e ▸ hlx)) n hn (fun ts e=>?_)) ?_
 ·subst e
  obtain⟨a1,a2⟩:=Xa hlx;refine⟨a1,a2,fun e=>hok ?_⟩
  unfold Lf;simp only;rw[e]
 ·cases hR:Lf n out with
  |none=>exact absurd hR hok
  |some y =>
   cases y with
   |inl ns =>
    rintro _ ⟨v,S2,rfl,hv,k2⟩;have g5:S2.mem.get S.next=some (.box (D0 0 0)):=(k2.2 _ (Ja5 _)).trans (Co S _);have q4:Bl Tryz.prog S2 29 (.ptr S.next 0) (.agg (D0 0 0))=some (S2.put S.next (D0 0 0)):=cM g5 rfl rfl;have q5:=Pi S2 S.next (D0 0 0) rfl;simp only[go_sem,Dl,B3,Cc,Cd,Bm,Cm,Ba,D8,reduceLT,reduceEqDiff,D3,q4,q5];exact⟨v,_,rfl,hv,Dj (k1.trans k2) (Ja1 _) _⟩
   |inr y =>
    rintro _ ⟨S2,rfl,k2⟩;have g5:S2.mem.get S.next=some (.box (D0 0 0)):=(k2.2 _ (Ja5 _)).trans (Co S _);have q4:Bl Tryz.prog S2 29 (.ptr S.next 0) (.agg (D0 y.1 y.2))=some (S2.put S.next (D0 y.1 y.2)):=cM g5 rfl rfl;have q5:=Pi S2 S.next (D0 y.1 y.2) rfl;simp only[go_sem,Dl,B3,Cc,Cd,Bm,Cm,Ba,D8,reduceLT,reduceEqDiff,D3,q4,q5];exact⟨_,rfl,Dj (k1.trans k2) (Ja1 _) _⟩
end
end Go.Ax
noncomputable section
namespace Go.Ax
open Go.RowKit
mutual
def clean:AV→AV
 |.sl _ _ sz es=>.sl 0 0 sz (Be es)
 |.agg cs=>.agg (Be cs)
 |.tup vs=>.tup (Be vs)
 |.v x=>.v x
 |.nilp=>.nilp
 |.nils=>.nils
 |.nilm=>.nilm
 |.ptr a b=>.ptr a b
 |.ep cs=>.ep cs
 |.map id=>.map id
 |.fn f a b=>.fn f a b
 |.iface t x=>.iface t x
 |.bs a b c d=>.bs a b c d
def Be:List AV→List AV
 | []=>[]
 |a :: r=>clean a :: Be r
end
mutual
def Bw:AV→Bool
 |.sl _ _ _ es=>C5 es
 |.agg cs=>C5 cs
 |.tup vs=>C5 vs
 |.v _=>true
 |.nilp=>true
 |.nils=>true
 |.nilm=>true
 |.ptr _ _=>false
 |.ep _=>false
 |.map _=>false
 |.fn _ _ _=>false
 |.iface _ _=>false
 |.bs _ _ _ _=>false
def C5:List AV→Bool
 | []=>true
 |a :: r=>Bw a && C5 r
end
theorem Io:∀es,Be es=es.map clean
 | []=>rfl
 |a :: r=>by rw[Be,Io r];rfl
theorem O4:∀{es},C5 es=true→∀a∈es,Bw a=true
 | [],_,a,h=>by cases h
 |b :: r,h,a,ha=>by
  rw[C5,Ja2]at h;rcases Jb8.1 ha with rfl |ha
  ·exact h.1
  ·exact O4 h.2 a ha
theorem mB(a:AV):(clean a).one=a.one:=by cases a <;> rfl
theorem aC(a:AV):(clean a).cells=a.cells.map clean:=by
 cases a <;> first |rfl |skip
 ·show Be _=_;rw[Io];rfl
theorem R5:∀es:List AV,B4 (es.map clean)=(B4 es).map clean
 | []=>rfl
 |a :: r=>by
  unfold B4;rw[Jc2,List.flatMap_cons,List.flatMap_cons,Jd4,aC];have:=R5 r;unfold B4 at this;rw[this]
theorem uQ{a:AV}(h:Bw a=true):∀c∈a.cells,Bw c=true:=by
 cases a with
 |agg cs=>exact O4 h
 |_=>intro c hc;simp only[AV.cells,Jb8,Ja7,or_false]at hc;subst hc;exact h
theorem free_flat{es:List AV}(h:C5 es=true):∀c∈B4 es,Bw c=true:=by
 intro c hc;unfold B4 at hc;rw[List.mem_flatMap]at hc;obtain⟨e,he,hce⟩:=hc;exact uQ (O4 h e he) c hce
theorem VR.clean{γ γ':Gh}{w:World}(him:∀b o,γ.im b o→γ'.im b o){a:AV}{x:Value}(h:VR γ w a x):Bw a=true→VR γ' w (Go.Ax.clean a) x:=by
 induction h with
 |v x h=>intro _;exact .v x h
 |nilp=>intro _;exact .nilp
 |ptr id off b s h=>intro hf;cases hf
 |ep cs b o c h h1 hr ih=>intro hf;cases hf
 |nils=>intro _;exact .nils
 |sl tok off sz es b o cap c hsz hes h1 h hr ht hf2 hc hb ih =>
  intro hf;have hf:C5 es=true:=hf
  show VR γ' w (.sl 0 0 sz (Be es)) _
  rw[Io];have hlen:(B4 (es.map Go.Ax.clean)).length=(B4 es).length:=by rw[R5,Ja9]
  have key:=VR.sl (γ:=γ') (w:=w) 0 0 sz (es.map Go.Ax.clean) b o cap c hsz (fun e he=>by
    obtain⟨e',he',rfl⟩:=List.mem_map.1 he
    rw[aC,Ja9];exact hes e' he') (fun y hy=>by
    rw[R5]at hy;obtain⟨y',hy',rfl⟩:=List.mem_map.1 hy
    rw[mB];exact h1 y' hy') (fun k hk=>⟨him _ _ (h k (by rw[← hlen];exact hk)).1,(h k (by rw[← hlen];exact hk)).2⟩) (fun k hk=>by
    have hk':k<(B4 es).length:=by rw[← hlen];exact hk
    have:=ih k hk' (free_flat hf _ (List.getElem_mem hk'))
    have e:(B4 (es.map Go.Ax.clean))[k]=Go.Ax.clean (B4 es)[k]:=by
     simp only[R5,List.getElem_map]
    rw[e];exact this) (fun h=>by omega) (fun h=>by omega) (by rw[Ja9];exact hc) hb
  rw[Ja9]at key;exact key
 |nilm=>intro _;exact .nilm
 |map id b s h=>intro hf;cases hf
 |fn f first caps x y hx hy h1 h2 ih1 ih2=>intro hf;cases hf
 |iface t a x h ih=>intro hf;cases hf
 |agg cs x hx h1 h ih =>
  intro hf;have hf:C5 cs=true:=hf
  show VR γ' w (.agg (Be cs)) _
  rw[Io];refine .agg _ x (by rw[hx,Ja9]) (fun a ha=>?_) (fun k hk hk'=>?_)
  ·obtain⟨a',ha',rfl⟩:=List.mem_map.1 ha
   rw[mB];exact h1 a' ha'
  ·rw[List.getElem_map]
   have hk2:k<cs.length:=by rw[Ja9]at hk;exact hk
   exact ih k hk2 hk' (O4 hf _ (List.getElem_mem hk2))
 |tup vs x hx h ih =>
  intro hf;have hf:C5 vs=true:=hf
  show VR γ' w (.tup (Be vs)) _
  rw[Io];refine .tup _ x (by rw[hx,Ja9]) (fun k hk hk'=>?_)
  rw[List.getElem_map];have hk2:k<vs.length:=by rw[Ja9]at hk;exact hk
  exact ih k hk2 hk' (O4 hf _ (List.getElem_mem hk2))
 |bs id off n2 sz b s cap h hc hsz hb=>intro hf;cases hf
def Gh.more(γ γ1:Gh):Gh:={ γ with im:=fun b o=>γ.im b o∨γ1.im b o }
theorem SR.more{base:Nat}{w0 w w':World}{γ γ1:Gh}{S:St}(h:SR base w0 γ S w)(hb:Below w.heap.size w w')(hi:∀b o,γ1.im b o→w.heap.size≤b∧∃v,w'.cell? ⟨b,o,none⟩=some v):SR base w0 (γ.more γ1) S w'∧Ext γ S w (γ.more γ1) S w':=by
 have hc:∀b o v,w.cell? ⟨b,o,none⟩=some v→w'.cell? ⟨b,o,none⟩=some v:=fun b o v hv=>(hb.cell (World.block_lt_of_cell? w _ hv)).trans hv
 have ev:Ev γ w (γ.more γ1) w':=⟨fun _ _ h=>h,fun _ _ h=>.inl h,fun b o v _ hv=>hc b o v hv,fun b arr T fr ha=>⟨arr,fr,(hb.block b (Jb9.1 ha).1).trans ha,rfl⟩⟩
 have him:∀b,b<w.heap.size→∀o,(γ.more γ1).im b o→γ.im b o:=fun b hlt o ho=>ho.elim id (fun h=>by have:=(hi b o h).1;omega)
 refine⟨⟨h.below.trans (hb.mono h.hbase),Jb2 h.hbase hb.size,fun b o ho=>?_,h.fresh,h.pos,fun id b s e=>Ja0 (h.inb id b s e) hb.size,fun id c e=>?_,h.inj⟩,
  ⟨ev,Ja1 _,fun _ _=>rfl,hb.size,fun id c b s h l=>.inr ⟨id,c,s,h,l⟩,fun b hl _=>⟨hb.block b hl,him b hl⟩⟩⟩
 ·rcases ho with ho |ho
  ·obtain⟨v,hv⟩:=h.imc b o ho;exact⟨v,hc b o v hv⟩
  ·exact(hi b o ho).2
 ·obtain⟨b,s,h1,h2,h3⟩:=h.live id c e
  exact⟨b,s,h1,h2,h3.keep ev (hb.block b (h.inb id b s h1)) (fun o=>him b (h.inb id b s h1) o)⟩
def Pr:R→Option AV
 |.ret a _=>Bool.rec none (some (clean a)) (Bw a)
 |_=>none
end Go.Ax
