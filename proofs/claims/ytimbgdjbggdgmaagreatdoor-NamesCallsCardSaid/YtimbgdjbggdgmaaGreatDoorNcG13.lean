/- ZbPe -/
import Derived.Test.YtimbgdjbggdgmaaGreatDoorNcG12
set_option linter.unusedVariables false
set_option linter.unusedSimpArgs false
set_option maxHeartbeats 16000000
noncomputable section
open Nat (reduceLT reduceEqDiff)
namespace Go.Ax
open Go.RowKit Go.Proofs
set_option maxRecDepth 100000
section
attribute [local go_sem] Bool.false_eq_true Bool.not_true List.append_nil List.getElem?_cons_succ List.getElem?_cons_zero List.getElem?_toArray List.nil_append Option.getD_some T.get_leaf T.get_set B1 Ky gY Ir gX Dr Eh Bz Dl Dz Db Ez Sl Ty Tw Ct Ew Fi Ms Ff A6 Bg Bv B3 By Km Jv I1 Bm H9 fp0 Cm Ge if_false if_true Cx Fq C9 Gw D3 Bo ofOpt ofOptS C8 Cc Bu Js Hw Ba Cd M8 Hl Mp E8 F8 true_and D8 Bc
inductive NT where
 |expr |arrow |or |and |not |sum |term |unary |when |primary |name |call |brk |lit
def Iv(ts:List Tk)(ws:List (List UInt8))(kid:Nat→PR PE):Nat→PE→Nat→PR PE
 |0,_,_=>.out
 |n+1,x,i=>if(tk ts i).text∈ws then(kid (i+1)).bind fun y j=>Iv ts ws kid n (.mk 6 (tk ts i).pos 0 (tk ts i).text false [x,y]) j else .ok x i
def Ih(ts:List Tk):Nat→PE→Nat→PR PE
 |0,_,_=>.out
 |n+1,x,i=>if(tk ts i).text∈[[119,104,101,110]]then(Gg ts (i+1)).bind fun c j=>Ih ts n (.mk 11 (tk ts i).pos 0 c.1 c.2 [x]) j else .ok x i
def F9(ts:List Tk)(kid:Nat→PR PE):Nat→List PE→Nat→PR (List PE)
 |0,_,_=>.out
 |n+1,l,i=>if(tk ts i).text∈[[44]]then(kid (i+1)).bind fun y j=>F9 ts kid n (l ++ [y]) j else(B2 ts [[41]] i).bind fun _ j=>.ok l j
def I4(ts:List Tk)(kid:Nat→PR PE)(n i:Nat):PR (List PE):=(B2 ts [[40]] i).bind fun _ j=>if(tk ts j).text∈[[41]]then .ok [] (j+1)else(kid j).bind fun x m=>F9 ts kid n [x] m
def F3(ts:List Tk)(i:Nat):Bool:=decide ((tk ts i).text=[45]) && (decide ((tk ts (i+1)).kind=2) && !decide ((tk ts (i+2)).text=[119,104,101,110]))
def P(ts:List Tk):Nat→NT→Nat→PR PE
 |0,_,_=>.out
 |n+1,.expr,i=>if(tk ts i).text∈[[105,102]]then(P ts n .expr (i+1)).bind fun c j=>(B2 ts [[116,104,101,110]] j).bind fun _ j=>(P ts n .expr j).bind fun y j=>(B2 ts [[101,108,115,101]] j).bind fun _ j=>(P ts n .expr j).bind fun z j=>.ok (.mk 7 (tk ts i).pos 0 [] false [c,y,z]) j
   else P ts n .arrow i
 |n+1,.arrow,i=>(P ts n .or i).bind fun x j=>if(tk ts j).text∈[[45,62]]then(P ts n .arrow (j+1)).bind fun y m=>.ok (.mk 8 (tk ts j).pos 0 [] false [x,y]) m
   else if H5 x=false then .ok x j
   else if(tk ts j).text∈[[102,98,121]]then(P ts n .arrow (j+1)).bind fun y m=>.ok (.mk 9 (tk ts j).pos 0 [] false [x,y]) m
   else .ok x j
 |n+1,.or,i=>(P ts n .and i).bind fun x j=>Iv ts [[111,114],[120,111,114]] (P ts n .and) n x j
 |n+1,.and,i=>(P ts n .not i).bind fun x j=>Iv ts [[97,110,100]] (P ts n .not) n x j
 |n+1,.not,i=>if(tk ts i).text∈[[110,111,116]]then(P ts n .not (i+1)).bind fun x j=>.ok (.mk 5 (tk ts i).pos 0 [] false [x]) j
   else(P ts n .sum i).bind fun x j=>if(tk ts j).text∈[[61],[60,62],[60],[60,61],[62],[62,61]]then(P ts n .sum (j+1)).bind fun y m=>.ok (.mk 6 (tk ts j).pos 0 (tk ts j).text false [x,y]) m else .ok x j
 |n+1,.sum,i=>(P ts n .term i).bind fun x j=>Iv ts [[43],[45]] (P ts n .term) n x j
 |n+1,.term,i=>(P ts n .unary i).bind fun x j=>Iv ts [[42],[47],[109,111,100]] (P ts n .unary) n x j
 |n+1,.unary,i=>if(tk ts i).text∈[[112,114,101]]then(P ts n .unary (i+1)).bind fun x j=>.ok (.mk 10 (tk ts i).pos 0 [] false [x]) j
   else if F3 ts i=true then I7 ts i
   else if(tk ts i).text∈[[45]]then(P ts n .unary (i+1)).bind fun x j=>.ok (.mk 4 (tk ts i).pos 0 [] false [x]) j
   else P ts n .when i
 |n+1,.when,i=>(P ts n .primary i).bind fun x j=>Ih ts n x j
 |n+1,.primary,i=>if(tk ts i).kind=2 then I7 ts i
   else if(tk ts i).kind=1 then P ts n .name i
   else if(tk ts i).text=[116,114,117,101]∨(tk ts i).text=[102,97,108,115,101]then .ok (G4 (tk ts i)) (i+1)
   else if(tk ts i).text=[109,101,114,103,101]then(Eu ts 1 (i+1)).bind fun t j=>(P ts n .brk j).bind fun x j=>(P ts n .brk j).bind fun y j=>.ok (.mk 12 (tk ts i).pos 0 t.text false [x,y]) j
   else if(tk ts i).text=[97,119,97,105,116]then(Eu ts 1 (i+1)).bind fun t j=>if(tk ts j).text∈[[97,102,116,101,114]]then(B2 ts [[40]] (j+1)).bind fun _ j=>(P ts n .lit j).bind fun x m=>(F9 ts (P ts n .lit) n [x] m).bind fun l m=>.ok (.mk 14 (tk ts i).pos 0 t.text false l) m else .ok (.mk 14 (tk ts i).pos 0 t.text false []) j
   else P ts n .brk i
 |n+1,.name,i=>if(tk ts (i+1)).text=[40]then P ts n .call i else(Eu ts 1 i).bind fun t j=>.ok (.mk 3 t.pos 0 t.text false []) j
 |n+1,.call,i=>(Eu ts 1 i).bind fun t j=>(I4 ts (P ts n .expr) n j).bind fun l m=>.ok (.mk 13 t.pos 0 t.text false l) m
 |n+1,.brk,i=>(B2 ts [[40]] i).bind fun _ j=>(P ts n .expr j).bind fun x j=>(B2 ts [[41]] j).bind fun _ j=>.ok x j
 |n+1,.lit,i=>if(tk ts i).text∈[[116,114,117,101],[102,97,108,115,101]]then .ok (G4 (tk ts i)) (i+1)else I7 ts i
def Con(p k:Nat)(ts:List Tk)(fid:Nat)(x:Nat→PR PE):Prop:=∀S i,Cur S p k ts i→p<S.next→i<ts.length→x i≠.out→WC E1 fid [.ptr p 0] S (Ot p k ts S RepE (x i))
section
variable {p k:Nat} {ts:List Tk} (hts:TokOk ts) (n:Nat)
include hts
theorem brk_p(ihexpr:Con p k ts 220 (P ts n .expr)):Con p k ts 304 (P ts (n+1) .brk):=fun S i h hp hi ho=>by
 obtain⟨fn1,hf1⟩:=fX 169;obtain⟨fn2,hf2⟩:=fX 220;refine WCk Tryz.f304 ?_;have eP:P ts (n+1) .brk i=(B2 ts [[40]] i).bind fun _ j=>(P ts n .expr j).bind fun x j=>(B2 ts [[41]] j).bind fun _ j=>.ok x j:=rfl
 rw[eP]at ho ⊢;clear eP;obtain⟨x1,c1,br,hp1⟩:=Jg h hp;have y2:=x1;simp only[go_sem,reduceLT,reduceEqDiff,Tryz.f304,hf1];refine WC.mono (Hq c1 hp1 hi hts 1 0 [[40]] (by decide) (by decide)) ?_
 cases hX3:B2 ts [[40]] i with
 |out=>exact absurd hX3 (Fa _ _ _)
 |bad a e =>
  rintro _ ⟨S3,rfl,x3⟩;simp only[A9,Bf,A7];exact⟨_,rfl,y2.trans x3⟩
 |ok a3 j3 =>
  rw[hX3]at ho;rw[Bs]at ho ⊢;rintro _ ⟨_,S3,rfl,rfl,x3,c3,hi3⟩;have hp3:p<S3.next:=Ja0 hp1 x3.1;have y4:=(y2).trans x3;have br_4:=br.keep x3;have ne5:=Ep ho;simp only[go_sem,reduceLT,reduceEqDiff,hf2];refine WC.mono (ihexpr _ _ c3 hp3 hi3 ne5) ?_
  cases hX6:P ts n .expr j3 with
  |out=>exact absurd hX6 ne5
  |bad a e =>
   rintro _ ⟨S6,rfl,x6⟩;simp only[A9,Bf,A7];exact⟨_,rfl,y4.trans x6⟩
  |ok a6 j6 =>
   rw[hX6]at ho;rw[Bs]at ho ⊢;rintro _ ⟨v6,S6,rfl,hr6,x6,c6,hi6⟩;obtain⟨xs6,rfl,hl6⟩:=RepE.agg hr6;have hp6:p<S6.next:=Ja0 hp3 x6.1;have y7:=(y4).trans x6;have br_7:=br_4.keep x6;obtain⟨S8,q8,x8,c8,bx,hp8⟩:=Sj c6 hp6 (xs:=xs6) hl6;have y9:=(y7).trans x8;have br_9:=br_7.keep x8;simp only[go_sem,reduceLT,reduceEqDiff,hf1,q8];refine WC.mono (Hq c8 hp8 hi6 hts 1 0 [[41]] (by decide) (by decide)) ?_
   cases hX10:B2 ts [[41]] j6 with
   |out=>exact absurd hX10 (Fa _ _ _)
   |bad a e =>
    rintro _ ⟨S10,rfl,x10⟩;simp only[A9,Bf,A7];exact⟨_,rfl,y9.trans x10⟩
   |ok a10 j10 =>
    rw[hX10]at ho;rw[Bs]at ho ⊢;rintro _ ⟨_,S10,rfl,rfl,x10,c10,hi10⟩;have hp10:p<S10.next:=Ja0 hp8 x10.1;have y11:=(y9).trans x10;have br_11:=br_9.keep x10;have bx_11:=bx.keep x10;have l12:=bx_11.ld30 hl6;obtain⟨g13,h13,gx,gc⟩:=Fh (S0:=S) c10 br_11 rfl (Ja1 _) y11 (xs:=xs6) hl6;simp only[go_sem,reduceLT,reduceEqDiff,l12,g13,h13];exact⟨_,_,rfl,hr6,gx,gc,hi10⟩
theorem expr_p(ihexpr:Con p k ts 220 (P ts n .expr))(iharrow:Con p k ts 247 (P ts n .arrow)):Con p k ts 220 (P ts (n+1) .expr):=fun S i h hp hi ho=>by
 obtain⟨fn1,hf1⟩:=fX 173;obtain⟨fn2,hf2⟩:=fX 247;obtain⟨fn3,hf3⟩:=fX 220;obtain⟨fn4,hf4⟩:=fX 169;obtain⟨fn5,hf5⟩:=fX 248;refine WCk Tryz.f220 ?_;have eP:P ts (n+1) .expr i=if(tk ts i).text∈[[105,102]]then(P ts n .expr (i+1)).bind fun c j=>(B2 ts [[116,104,101,110]] j).bind fun _ j=>(P ts n .expr j).bind fun y j=>(B2 ts [[101,108,115,101]] j).bind fun _ j=>(P ts n .expr j).bind fun z j=>.ok (.mk 7 (tk ts i).pos 0 [] false [c,y,z]) j else P ts n .arrow i:=rfl
 rw[eP]at ho ⊢;clear eP;obtain⟨x1,c1,br,hp1⟩:=Jg h hp;have y2:=x1
 by_cases hm:(tk ts i).text∈[[105,102]]
 ·rw[if_pos hm]at ho ⊢
  simp only[go_sem,reduceLT,reduceEqDiff,Tryz.f220,hf1];refine WC.mono (J1 c1 hp1 hi hts 1 0 [[105,102]] (by decide) (by decide) hm) ?_
  rintro _ ⟨S3,rfl,x3,c3,hi3,hp3⟩;have y4:=(y2).trans x3;have br_4:=br.keep x3;obtain⟨S5,q5,x5,c5,bt,hp5⟩:=Dq c3 hp3 (tk ts i);have y6:=(y4).trans x5;have br_6:=br_4.keep x5;have ne7:=Ep ho;simp only[go_sem,reduceLT,reduceEqDiff,hf2,hf3,q5];refine WC.mono (ihexpr _ _ c5 hp5 hi3 ne7) ?_
  cases hX8:P ts n .expr (i+1)with
  |out=>exact absurd hX8 ne7
  |bad a e =>
   rintro _ ⟨S8,rfl,x8⟩;simp only[A9,Bf,A7];exact⟨_,rfl,y6.trans x8⟩
  |ok a8 j8 =>
   rw[hX8]at ho;rw[Bs]at ho ⊢;rintro _ ⟨v8,S8,rfl,hr8,x8,c8,hi8⟩;obtain⟨xs8,rfl,hl8⟩:=RepE.agg hr8;have rf8:=RepE.refl hr8;have hp8:p<S8.next:=Ja0 hp5 x8.1;have y9:=(y6).trans x8;have br_9:=br_6.keep x8;have bt_9:=bt.keep x8;obtain⟨S10,q10,x10,c10,bc,hp10⟩:=Sj c8 hp8 (xs:=xs8) hl8;have y11:=(y9).trans x10;have br_11:=br_9.keep x10;have bt_11:=bt_9.keep x10;simp only[go_sem,reduceLT,reduceEqDiff,hf4,q10];refine WC.mono (Hq c10 hp10 hi8 hts 1 0 [[116,104,101,110]] (by decide) (by decide)) ?_
   cases hX12:B2 ts [[116,104,101,110]] j8 with
   |out=>exact absurd hX12 (Fa _ _ _)
   |bad a e =>
    rintro _ ⟨S12,rfl,x12⟩;simp only[A9,Bf,A7];exact⟨_,rfl,y11.trans x12⟩
   |ok a12 j12 =>
    rw[hX12]at ho;rw[Bs]at ho ⊢;rintro _ ⟨_,S12,rfl,rfl,x12,c12,hi12⟩;have hp12:p<S12.next:=Ja0 hp10 x12.1;have y13:=(y11).trans x12;have br_13:=br_11.keep x12;have bt_13:=bt_11.keep x12;have bc_13:=bc.keep x12;have ne14:=Ep ho;simp only[go_sem,reduceLT,reduceEqDiff,hf3];refine WC.mono (ihexpr _ _ c12 hp12 hi12 ne14) ?_
    cases hX15:P ts n .expr j12 with
    |out=>exact absurd hX15 ne14
    |bad a e =>
     rintro _ ⟨S15,rfl,x15⟩;simp only[A9,Bf,A7];exact⟨_,rfl,y13.trans x15⟩
    |ok a15 j15 =>
     rw[hX15]at ho;rw[Bs]at ho ⊢;rintro _ ⟨v15,S15,rfl,hr15,x15,c15,hi15⟩;obtain⟨xs15,rfl,hl15⟩:=RepE.agg hr15;have rf15:=RepE.refl hr15;have hp15:p<S15.next:=Ja0 hp12 x15.1;have y16:=(y13).trans x15;have br_16:=br_13.keep x15;have bt_16:=bt_13.keep x15;have bc_16:=bc_13.keep x15;obtain⟨S17,q17,x17,c17,be,hp17⟩:=Sj c15 hp15 (xs:=xs15) hl15;have y18:=(y16).trans x17;have br_18:=br_16.keep x17;have bt_18:=bt_16.keep x17;have bc_18:=bc_16.keep x17;simp only[go_sem,reduceLT,reduceEqDiff,hf4,q17];refine WC.mono (Hq c17 hp17 hi15 hts 1 0 [[101,108,115,101]] (by decide) (by decide)) ?_
     cases hX19:B2 ts [[101,108,115,101]] j15 with
     |out=>exact absurd hX19 (Fa _ _ _)
     |bad a e =>
      rintro _ ⟨S19,rfl,x19⟩;simp only[A9,Bf,A7];exact⟨_,rfl,y18.trans x19⟩
     |ok a19 j19 =>
      rw[hX19]at ho;rw[Bs]at ho ⊢;rintro _ ⟨_,S19,rfl,rfl,x19,c19,hi19⟩;have hp19:p<S19.next:=Ja0 hp17 x19.1;have y20:=(y18).trans x19;have br_20:=br_18.keep x19;have bt_20:=bt_18.keep x19;have bc_20:=bc_18.keep x19;have be_20:=be.keep x19;simp only[Eh,Dz,E8,Ky,Bu,Cd,reduceLT,Ac];refine Dd [(0,true),(1,true),(2,true),(3,true),(4,true),(2,false),(1,false),(0,false),(5,true),(6,true),(7,true)] (by kernel_rfl) (by kernel_rfl) ?_
      have l21:=bt_20.ld68;have l22:=bc_20.ld30 hl8;have l23:=be_20.ld30 hl15;have ne24:=Ep ho;simp only[go_sem,reduceLT,reduceEqDiff,hf3,l21,l22,l23];refine WC.mono (ihexpr _ _ c19 hp19 hi19 ne24) ?_
      cases hX25:P ts n .expr j19 with
      |out=>exact absurd hX25 ne24
      |bad a e =>
       rintro _ ⟨S25,rfl,x25⟩;simp only[A9,A7,Ht,I5];exact⟨_,rfl,y20.trans x25⟩
      |ok a25 j25 =>
       rw[hX25]at ho;rw[Bs]at ho ⊢;rintro _ ⟨v25,S25,rfl,hr25,x25,c25,hi25⟩;obtain⟨xs25,rfl,hl25⟩:=RepE.agg hr25;have hp25:p<S25.next:=Ja0 hp19 x25.1;have y26:=(y20).trans x25;have br_26:=br_20.keep x25;have bt_26:=bt_20.keep x25;have bc_26:=bc_20.keep x25;have be_26:=be_20.keep x25;have l27:=bt_26.ld68;have l28:=bc_26.ld30 hl8;have l29:=be_26.ld30 hl15;have l30:=row28_3 xs8 xs15 xs25 hl8 hl15 hl25;simp only[go_sem,reduceLT,reduceEqDiff,hf5,rf8,rf15,l27,l28,l29,l30];refine WC.mono (Qi _ 7 (tk ts i) (.sl 1 0 6 [.agg xs8,.agg xs15,.agg xs25]) (.inr ⟨_,_,_,rfl⟩)) ?_;rintro _ ⟨S31,rfl,k31⟩;have x31:=k31.x p;have c31:=c25.keep hp25 k31;have hp31:p<S31.next:=Ja0 hp25 x31.1;have y32:=(y26).trans x31;have br_32:=br_26.keep x31;have bc_32:=bc_26.keep x31;have be_32:=be_26.keep x31;obtain⟨g33,h33,gx,gc⟩:=Fh (S0:=S) c31 br_32 rfl (Ja1 _) y32 (xs:=(exC 7 (tk ts i).pos 0 [] false (.sl 1 0 6 [.agg xs8,.agg xs15,.agg xs25]))) rfl;simp only[go_sem,reduceLT,reduceEqDiff,g33,h33];exact⟨_,_,rfl,(.mk 7 (tk ts i).pos 0 [] false _ _ (.row _ _ _ _ (.cons _ _ _ _ hr8 (.cons _ _ _ _ hr15 (.cons _ _ _ _ hr25 .nil))))),gx,gc,hi25⟩
 ·rw[if_neg hm]at ho ⊢
  simp only[go_sem,reduceLT,reduceEqDiff,Tryz.f220,hf1];refine WC.mono (K7 c1 hp1 hi hts 1 0 [[105,102]] (by decide) hm) ?_
  rintro _ ⟨S34,rfl,x34,c34,hi34,hp34⟩;have y35:=(y2).trans x34;have br_35:=br.keep x34;obtain⟨S36,q36,x36,c36,bt,hp36⟩:=Dq c34 hp34 B5;have y37:=(y35).trans x36;have br_37:=br_35.keep x36;simp only[go_sem,reduceLT,reduceEqDiff,Au,hf2,hf3,q36];refine WC.mono (iharrow _ _ c36 hp36 hi34 ho) ?_
  cases hX38:P ts n .arrow i with
  |out=>exact absurd hX38 ho
  |bad a e =>
   rintro _ ⟨S38,rfl,x38⟩;simp only[A9,Bf,A7];exact⟨_,rfl,y37.trans x38⟩
  |ok a38 j38 =>
   rintro _ ⟨v38,S38,rfl,hr38,x38,c38,hi38⟩;obtain⟨xs38,rfl,hl38⟩:=RepE.agg hr38;have hp38:p<S38.next:=Ja0 hp36 x38.1;have y39:=(y37).trans x38;have br_39:=br_37.keep x38;obtain⟨g40,h40,gx,gc⟩:=Fh (S0:=S) c38 br_39 rfl (Ja1 _) y39 (xs:=xs38) hl38;simp only[go_sem,reduceLT,reduceEqDiff,g40,h40];exact⟨_,_,rfl,hr38,gx,gc,hi38⟩
theorem arrow_p(iharrow:Con p k ts 247 (P ts n .arrow))(ihor:Con p k ts 267 (P ts n .or)):Con p k ts 247 (P ts (n+1) .arrow):=fun S i h hp hi ho=>by
 obtain⟨fn1,hf1⟩:=fX 173;obtain⟨fn2,hf2⟩:=fX 247;obtain⟨fn3,hf3⟩:=fX 267;obtain⟨fn4,hf4⟩:=fX 248;obtain⟨fn5,hf5⟩:=fX 268;refine WCk Tryz.f247 ?_;have eP:P ts (n+1) .arrow i=(P ts n .or i).bind fun x j=>if(tk ts j).text∈[[45,62]]then(P ts n .arrow (j+1)).bind fun y m=>.ok (.mk 8 (tk ts j).pos 0 [] false [x,y]) m else if H5 x=false then .ok x j else if(tk ts j).text∈[[102,98,121]]then(P ts n .arrow (j+1)).bind fun y m=>.ok (.mk 9 (tk ts j).pos 0 [] false [x,y]) m else .ok x j:=rfl
 rw[eP]at ho ⊢;clear eP;obtain⟨x1,c1,br,hp1⟩:=Jg h hp;have y2:=x1;have ne3:=Ep ho;simp only[go_sem,reduceLT,reduceEqDiff,Tryz.f247,hf3];refine WC.mono (ihor _ _ c1 hp1 hi ne3) ?_
 cases hX4:P ts n .or i with
 |out=>exact absurd hX4 ne3
 |bad a e =>
  rintro _ ⟨S4,rfl,x4⟩;simp only[A9,Bf,A7];exact⟨_,rfl,y2.trans x4⟩
 |ok a4 j4 =>
  rw[hX4]at ho;rw[Bs]at ho ⊢;rintro _ ⟨v4,S4,rfl,hr4,x4,c4,hi4⟩;obtain⟨xs4,rfl,hl4⟩:=RepE.agg hr4;have rf4:=RepE.refl hr4;have hp4:p<S4.next:=Ja0 hp1 x4.1;have y5:=(y2).trans x4;have br_5:=br.keep x4;obtain⟨S6,q6,x6,c6,bx,hp6⟩:=Sj c4 hp4 (xs:=xs4) hl4;have y7:=(y5).trans x6;have br_7:=br_5.keep x6
  by_cases hm:(tk ts j4).text∈[[45,62]]
  ·rw[if_pos hm]at ho ⊢
   simp only[go_sem,reduceLT,reduceEqDiff,hf1,q6];refine WC.mono (J1 c6 hp6 hi4 hts 1 0 [[45,62]] (by decide) (by decide) hm) ?_
   rintro _ ⟨S8,rfl,x8,c8,hi8,hp8⟩;have y9:=(y7).trans x8;have br_9:=br_7.keep x8;have bx_9:=bx.keep x8;obtain⟨S10,q10,x10,c10,bt,hp10⟩:=Dq c8 hp8 (tk ts j4);have y11:=(y9).trans x10;have br_11:=br_9.keep x10;have bx_11:=bx_9.keep x10;have l12:=bt.ld68;have l13:=bx_11.ld30 hl4;simp only[go_sem,reduceLT,reduceEqDiff,hf5,q10,l13];refine Dd [(0,true),(1,true),(2,true),(3,true),(1,false),(0,false),(4,true),(5,true),(6,true)] (by kernel_rfl) (by kernel_rfl) ?_
   have ne14:=Ep ho;simp only[go_sem,reduceLT,reduceEqDiff,hf2,l12,l13];refine WC.mono (iharrow _ _ c10 hp10 hi8 ne14) ?_
   cases hX15:P ts n .arrow (j4+1)with
   |out=>exact absurd hX15 ne14
   |bad a e =>
    rintro _ ⟨S15,rfl,x15⟩;simp only[A9,A7,Ht,I5];exact⟨_,rfl,y11.trans x15⟩
   |ok a15 j15 =>
    rw[hX15]at ho;rw[Bs]at ho ⊢;rintro _ ⟨v15,S15,rfl,hr15,x15,c15,hi15⟩;obtain⟨xs15,rfl,hl15⟩:=RepE.agg hr15;have hp15:p<S15.next:=Ja0 hp10 x15.1;have y16:=(y11).trans x15;have br_16:=br_11.keep x15;have bx_16:=bx_11.keep x15;have bt_16:=bt.keep x15;have l17:=bt_16.ld68;have l18:=bx_16.ld30 hl4;have l19:=aU xs4 xs15 hl4 hl15;simp only[go_sem,reduceLT,reduceEqDiff,hf4,rf4,l17,l18,l19];refine WC.mono (Qi _ 8 (tk ts j4) (.sl 1 0 6 [.agg xs4,.agg xs15]) (.inr ⟨_,_,_,rfl⟩)) ?_;rintro _ ⟨S20,rfl,k20⟩;have x20:=k20.x p;have c20:=c15.keep hp15 k20;have hp20:p<S20.next:=Ja0 hp15 x20.1;have y21:=(y16).trans x20;have br_21:=br_16.keep x20;obtain⟨g22,h22,gx,gc⟩:=Fh (S0:=S) c20 br_21 rfl (Ja1 _) y21 (xs:=(exC 8 (tk ts j4).pos 0 [] false (.sl 1 0 6 [.agg xs4,.agg xs15]))) rfl;simp only[go_sem,reduceLT,reduceEqDiff,g22,h22];exact⟨_,_,rfl,(.mk 8 (tk ts j4).pos 0 [] false _ _ (.row _ _ _ _ (.cons _ _ _ _ hr4 (.cons _ _ _ _ hr15 .nil)))),gx,gc,hi15⟩
  ·rw[if_neg hm]at ho ⊢
   simp only[go_sem,reduceLT,reduceEqDiff,hf1,q6];refine WC.mono (K7 c6 hp6 hi4 hts 1 0 [[45,62]] (by decide) hm) ?_
   rintro _ ⟨S23,rfl,x23,c23,hi23,hp23⟩;have y24:=(y7).trans x23;have br_24:=br_7.keep x23;have bx_24:=bx.keep x23;obtain⟨S25,q25,x25,c25,bt,hp25⟩:=Dq c23 hp23 B5;have y26:=(y24).trans x25;have br_26:=br_24.keep x25;have bx_26:=bx_24.keep x25;have l27:=bx_26.ld30 hl4;simp only[go_sem,reduceLT,reduceEqDiff,hf5,q25,l27];refine WC.mono (const_w _ xs4 _ hr4) ?_;rintro _ ⟨S28,rfl,k28⟩;have x28:=k28.x p;have c28:=c25.keep hp25 k28;have hp28:p<S28.next:=Ja0 hp25 x28.1;have y29:=(y26).trans x28;have br_29:=br_26.keep x28;have bx_29:=bx_26.keep x28;have l30:=bx_29.ld30 hl4
   by_cases hcn:H5 a4=false
   ·rw[if_pos hcn]at ho ⊢
    rw[hcn];obtain⟨g31,h31,gx,gc⟩:=Fh (S0:=S) c28 br_29 rfl (Ja1 _) y29 (xs:=xs4) hl4;simp only[go_sem,reduceLT,reduceEqDiff,Au,hf1,l30,g31,h31];exact⟨_,_,rfl,hr4,gx,gc,hi23⟩
   ·rw[if_neg hcn]at ho ⊢
    have hcn2:H5 a4=true:=by simpa using hcn
    rw[hcn2]
    by_cases hm2:(tk ts j4).text∈[[102,98,121]]
    ·rw[if_pos hm2]at ho ⊢
     simp only[go_sem,reduceLT,reduceEqDiff,hf1,l30];refine WC.mono (J1 c28 hp28 hi23 hts 1 0 [[102,98,121]] (by decide) (by decide) hm2) ?_
     rintro _ ⟨S32,rfl,x32,c32,hi32,hp32⟩;have y33:=(y29).trans x32;have br_33:=br_29.keep x32;have bx_33:=bx_29.keep x32;obtain⟨S34,q34,x34,c34,bt2,hp34⟩:=Dq c32 hp32 (tk ts j4);have y35:=(y33).trans x34;have br_35:=br_33.keep x34;have bx_35:=bx_33.keep x34;have l36:=bt2.ld68;have l37:=bx_35.ld30 hl4;simp only[go_sem,reduceLT,reduceEqDiff,q34,l37];refine Dd [(0,true),(1,true),(2,true),(3,true),(1,false),(0,false),(4,true),(5,true),(6,true)] (by kernel_rfl) (by kernel_rfl) ?_
     have ne38:=Ep ho;simp only[go_sem,reduceLT,reduceEqDiff,hf2,l36,l37];refine WC.mono (iharrow _ _ c34 hp34 hi32 ne38) ?_
     cases hX39:P ts n .arrow (j4+1)with
     |out=>exact absurd hX39 ne38
     |bad a e =>
      rintro _ ⟨S39,rfl,x39⟩;simp only[A9,A7,Ht,I5];exact⟨_,rfl,y35.trans x39⟩
     |ok a39 j39 =>
      rw[hX39]at ho;rw[Bs]at ho ⊢;rintro _ ⟨v39,S39,rfl,hr39,x39,c39,hi39⟩;obtain⟨xs39,rfl,hl39⟩:=RepE.agg hr39;have hp39:p<S39.next:=Ja0 hp34 x39.1;have y40:=(y35).trans x39;have br_40:=br_35.keep x39;have bx_40:=bx_35.keep x39;have bt_40:=bt2.keep x39;have bt2_40:=bt2.keep x39;have l41:=bt_40.ld68;have l42:=bx_40.ld30 hl4;have l43:=aU xs4 xs39 hl4 hl39;simp only[go_sem,reduceLT,reduceEqDiff,hf4,rf4,l41,l42,l43];refine WC.mono (Qi _ 9 (tk ts j4) (.sl 1 0 6 [.agg xs4,.agg xs39]) (.inr ⟨_,_,_,rfl⟩)) ?_;rintro _ ⟨S44,rfl,k44⟩;have x44:=k44.x p;have c44:=c39.keep hp39 k44;have hp44:p<S44.next:=Ja0 hp39 x44.1;have y45:=(y40).trans x44;have br_45:=br_40.keep x44;have bt2_45:=bt2_40.keep x44;obtain⟨g46,h46,gx,gc⟩:=Fh (S0:=S) c44 br_45 rfl (Ja1 _) y45 (xs:=(exC 9 (tk ts j4).pos 0 [] false (.sl 1 0 6 [.agg xs4,.agg xs39]))) rfl;simp only[go_sem,reduceLT,reduceEqDiff,g46,h46];exact⟨_,_,rfl,(.mk 9 (tk ts j4).pos 0 [] false _ _ (.row _ _ _ _ (.cons _ _ _ _ hr4 (.cons _ _ _ _ hr39 .nil)))),gx,gc,hi39⟩
    ·rw[if_neg hm2]at ho ⊢
     simp only[go_sem,reduceLT,reduceEqDiff,hf1,l30];refine WC.mono (K7 c28 hp28 hi23 hts 1 0 [[102,98,121]] (by decide) hm2) ?_
     rintro _ ⟨S47,rfl,x47,c47,hi47,hp47⟩;have y48:=(y29).trans x47;have br_48:=br_29.keep x47;have bx_48:=bx_29.keep x47;obtain⟨S49,q49,x49,c49,bt2,hp49⟩:=Dq c47 hp47 B5;have y50:=(y48).trans x49;have br_50:=br_48.keep x49;have bx_50:=bx_48.keep x49;have l51:=bx_50.ld30 hl4;obtain⟨g52,h52,gx,gc⟩:=Fh (S0:=S) c49 br_50 rfl (Ja1 _) y50 (xs:=xs4) hl4;simp only[go_sem,reduceLT,reduceEqDiff,q49,l51,g52,h52];exact⟨_,_,rfl,hr4,gx,gc,hi47⟩
end
end
section
attribute [local go_sem] Bool.false_eq_true Bool.not_true List.append_nil List.getElem?_cons_succ List.getElem?_cons_zero List.getElem?_toArray List.nil_append Option.bind_some Option.getD_some T.get_leaf T.get_set B1 Ky gY Ir gX Dc Dr Eh Bz Dl Dz Db Ez Sl Ty Tw Ct Ew Fi Ms Ff A6 Bg Bv B3 By Km Jv I1 Bm H9 fp0 Cm if_false if_true Cx Fq C9 Em D3 Bo ofOpt ofOptS C8 Cc Bu Js Hw Ba Cd M8 Hl Mp E8 F8 true_and D8 Bc
def Mr(m p:Nat):AV:=.fn (.func m) [.ptr p 0] []
def nO:Code:=match Tryz.f284.body with
 |some (.seq _ (.seq _ (.block _ (.loop c))))=>c
 |some (.seq _ (.seq _ (.seq (.block _ (.loop c)) _)))=>c
 |_=>.skip
def bY:Code:=match Tryz.f298.body with
 |some (.seq _ (.seq _ (.block _ (.loop c))))=>c
 |some (.seq _ (.seq _ (.seq (.block _ (.loop c)) _)))=>c
 |_=>.skip
def LoopEx(p k:Nat)(ts:List Tk)(S0:St)(d:Nat)(x:PR PE)(r:O):Prop:=match x with
 |.ok a j=>∃t' S' ys,r=.out .ret ⟨t',[]⟩ S'∧t'.get d=some (.ptr S0.next 0)∧A8 Tryz.prog S' 57 (.ptr S0.next 0)=some (.agg ys)∧RepE (.agg ys) a∧C4 p S0 S'∧Cur S' p k ts j∧j<ts.length
 |.bad a e=>∃t' S',r=.out (.pan (Xj a e)) ⟨t',[]⟩ S'∧C4 p S0 S'
 |.out=>False
theorem U4{p k i b c:Nat}{S S0:St}{ts:List Tk}{xs ys cs:List AV}(x:C4 p S0 S)(hb:S0.next≤b)(h:Has p S b xs)(cu:Cur S p k ts i)(hr:Has p S c cs)(hne:b≠c):C4 p S0 (S.put b ys)∧Cur (S.put b ys) p k ts i∧Has p (S.put b ys) b ys∧Has p (S.put b ys) c cs :=
 ⟨Ig x hb _,cu.put (fun e=>h.ne e.symm) _,⟨Dv _ _ _,h.lt,h.ne⟩,⟨(D9 (fun e=>hne e.symm)).trans hr.get,hr.lt,hr.ne⟩⟩
section
variable {p k:Nat} {ts:List Tk} (hts:TokOk ts)
include hts
theorem rX(m:Nat)(kid:Nat→PR PE)(hF:∃fn,E1.F m=some fn)(hkid:Con p k ts m kid)(ws:List (List UInt8))(hw:ws.length≤1000)(he:[] ∉ ws)(S0:St):∀(n:Nat) (x:PE) (i:Nat) (t:T AV) (S:St) (b:Nat) (xs0:List AV),Iv ts ws kid n x i≠.out →
  t.get 0=some (.ptr p 0)→t.get 1=some (Mr m p)→t.get 2=some (wsA 1 0 ws)→t.get 6=some (.ptr S0.next 0)→t.get 7=some (.ptr b 0)→Cur S p k ts i→p<S.next→i<ts.length→Has p S S0.next exZ→Has p S b xs0→xs0.length=6→RepE (.agg xs0) x→S0.next≤b→b≠S0.next→C4 p S0 S →
  WX E1 28 (.loop nO) ⟨t,[]⟩ S (LoopEx p k ts S0 6 (Iv ts ws kid n x i))
 |0,x,i,t,S,b,xs0,ho,h0,h1,h2,h6,h7,h,hp,hi,hr,hb,hl0,hr0,hle,hne,hx=>absurd rfl ho
 |n+1,x,i,t,S,b,xs0,ho,h0,h1,h2,h6,h7,h,hp,hi,hr,hb,hl0,hr0,hle,hne,hx=>by
  refine Bt (Bp ?_);obtain⟨fn1,hf1⟩:=fX 173;obtain⟨fn2,hf2⟩:=hF;obtain⟨fn3,hf3⟩:=fX 290;unfold Mr at h1;have rf0:=RepE.refl hr0;have eP:Iv ts ws kid (n+1) x i=if(tk ts i).text∈ws then(kid (i+1)).bind fun y j=>Iv ts ws kid n (.mk 6 (tk ts i).pos 0 (tk ts i).text false [x,y]) j else .ok x i:=rfl
  rw[eP]at ho ⊢;clear eP
  by_cases hm:(tk ts i).text∈ws
  ·rw[if_pos hm]at ho ⊢
   simp only[go_sem,reduceLT,reduceEqDiff,Tryz.f284,hf1,h0,h2,nO];refine WC.mono (J1 h hp hi hts 1 0 ws hw he hm) ?_;rintro _ ⟨S1,rfl,x1,c1,hi1,hp1⟩;have y2:=(hx).trans x1;have br_2:=hr.keep x1;have bx_2:=hb.keep x1;obtain⟨S3,q3,x3,c3,bt,hp3⟩:=Dq c1 hp1 (tk ts i);have y4:=(y2).trans x3;have br_4:=br_2.keep x3;have bx_4:=bx_2.keep x3;have l5:=bt.ld68;have l6:=bx_4.ld30 hl0;simp only[go_sem,Ge,Gw,reduceLT,reduceEqDiff,h6,h7,q3,l6];refine Dd [(0,true),(1,true),(2,true),(3,true),(1,false),(0,false),(4,true),(5,true)] (by kernel_rfl) (by kernel_rfl) ?_
   simp only[go_sem,reduceLT,reduceEqDiff,hf2,h1,h7,l5,l6];have ne7:=Ep ho;refine WC.mono (hkid _ _ c3 hp3 hi1 ne7) ?_
   cases hX8:kid (i+1)with
   |out=>exact absurd hX8 ne7
   |bad a e =>
    rintro _ ⟨S8,rfl,x8⟩;simp only[Ib,Df,Ht,I5];exact⟨_,_,rfl,y4.trans x8⟩
   |ok a8 j8 =>
    rw[hX8]at ho;rw[Bs]at ho ⊢;rintro _ ⟨v8,S8,rfl,hr8,x8,c8,hi8⟩;obtain⟨xs8,rfl,hl8⟩:=RepE.agg hr8;have hp8:p<S8.next:=Ja0 hp3 x8.1;have y9:=(y4).trans x8;have br_9:=br_4.keep x8;have bx_9:=bx_4.keep x8;have bt_9:=bt.keep x8;have l10:=bt_9.ld68;have l11:=bx_9.ld30 hl0;simp only[go_sem,reduceLT,reduceEqDiff,hf3,h7,rf0,l10,l11];refine WC.mono (vW _ (tk ts i) xs0 xs8 hl0 hl8) ?_;rintro _ ⟨S12,rfl,k12⟩;have x12:=k12.x p;have c12:=c8.keep hp8 k12;have hp12:p<S12.next:=Ja0 hp8 x12.1;have y13:=(y9).trans x12;have br_13:=br_9.keep x12;have bx_13:=bx_9.keep x12;have st:=Vt (ys:=exC 6 (tk ts i).pos 0 (tk ts i).text false (.sl 1 0 6 [.agg xs0,.agg xs8])) bx_13.get hl0 rfl;obtain⟨px,pc,pb,pr⟩:=U4 (ys:=exC 6 (tk ts i).pos 0 (tk ts i).text false (.sl 1 0 6 [.agg xs0,.agg xs8])) y13 hle bx_13 c12 br_13 hne;simp only[go_sem,C7,Cq,reduceLT,reduceEqDiff,h7,st];exact rX m kid ⟨_,hf2⟩ hkid ws hw he S0 n _ _ _ _ b _ ho (by simp[T.get_set,h0]) (by simp[T.get_set,h1,Mr]) (by simp[T.get_set,h2]) (by simp[T.get_set,h6]) (by simp[T.get_set,h7]) pc hp12 hi8 pr pb rfl (.mk 6 (tk ts i).pos 0 (tk ts i).text false _ _ (.row _ _ _ _ (.cons _ _ _ _ hr0 (.cons _ _ _ _ hr8 .nil)))) hle hne px
  ·rw[if_neg hm]at ho ⊢
   simp only[go_sem,reduceLT,reduceEqDiff,Tryz.f284,hf1,h0,h2,nO];refine WC.mono (K7 h hp hi hts 1 0 ws hw hm) ?_;rintro _ ⟨S14,rfl,x14,c14,hi14,hp14⟩;have y15:=(hx).trans x14;have br_15:=hr.keep x14;have bx_15:=hb.keep x14;obtain⟨S16,q16,x16,c16,bt,hp16⟩:=Dq c14 hp14 B5;have y17:=(y15).trans x16;have br_17:=br_15.keep x16;have bx_17:=bx_15.keep x16;have l18:=bx_17.ld30 hl0;obtain⟨g19,h19,gx,gc⟩:=Fh (S0:=S0) c16 br_17 rfl (Ja1 _) y17 (xs:=xs0) hl0;simp only[go_sem,Je,Fk,Ge,Gw,reduceLT,reduceEqDiff,Au,h6,h7,q16,l18,g19];exact⟨_,_,xs0,rfl,by simp[T.get_set,h6],h19,hr0,gx,gc,hi14⟩
theorem row_p(m:Nat)(kid:Nat→PR PE)(hF:∃fn,E1.F m=some fn)(hkid:Con p k ts m kid)(ws:List (List UInt8))(hw:ws.length≤1000)(he:[] ∉ ws)(n:Nat)(S:St)(i:Nat)(h:Cur S p k ts i)(hp:p<S.next)(hi:i<ts.length)(ho:((kid i).bind fun x j=>Iv ts ws kid n x j)≠.out):WC E1 284 [.ptr p 0,Mr m p,wsA 1 0 ws] S (Ot p k ts S RepE ((kid i).bind fun x j=>Iv ts ws kid n x j)):=by
 refine WCk Tryz.f284 ?_;obtain⟨fn2,hf2⟩:=hF;obtain⟨x1,c1,br,hp1⟩:=Jg h hp;have y2:=x1;have ne3:=Ep ho;have ha6:=Jg h hp;simp only[go_sem,reduceLT,Nat.reduceAdd,reduceEqDiff,Tryz.f284,hf2,Mr];refine WC.mono (hkid _ _ c1 hp1 hi ne3) ?_
 cases hX4:kid i with
 |out=>exact absurd hX4 ne3
 |bad a e =>
  rintro _ ⟨S4,rfl,x4⟩;simp only[A9,Bf,A7];exact⟨_,rfl,y2.trans x4⟩
 |ok a4 j4 =>
  rw[hX4]at ho;rw[Bs]at ho ⊢;rintro _ ⟨v4,S4,rfl,hr4,x4,c4,hi4⟩;obtain⟨xs4,rfl,hl4⟩:=RepE.agg hr4;have hp4:p<S4.next:=Ja0 hp1 x4.1;have y5:=(y2).trans x4;have br_5:=br.keep x4;obtain⟨S6,q6,x6,c6,bx,hp6⟩:=Sj c4 hp4 (xs:=xs4) hl4;have y7:=(y5).trans x6;have br_7:=br_5.keep x6;simp only[go_sem,Iq,reduceLT,reduceEqDiff,q6];have hbr:=br_7.lt;refine WX.mono (rX hts m kid ⟨_,hf2⟩ hkid ws hw he S n a4 j4 _ _ _ xs4 ho (by simp[T.get_set]) (by simp[T.get_set,Mr]) (by simp[T.get_set]) (by simp[T.get_set]) (by simp[T.get_set]) c6 hp6 hi4 br_7 bx hl4 hr4 (Jb2 (Jc9 _) x4.1) (by have:=x4.1;have e:(S.newBox exZ).next=S.next+1:=rfl;omega) y7) ?_
  cases hR:Iv ts ws kid n a4 j4 with
  |out=>exact absurd hR ho
  |bad a e =>
   rintro _ ⟨t9,S9,rfl,x9⟩;simp only[Df,A7];exact⟨_,rfl,x9⟩
  |ok a j =>
   rintro _ ⟨t9,S9,ys,rfl,g9,l9,r9,x9,c9,i9⟩;simp only[Fk,Ff,Bm,Cm,Ba,D8,g9,l9];exact⟨_,_,rfl,r9,x9,c9,i9⟩
variable (n:Nat)
theorem or_p(ihand:Con p k ts 285 (P ts n .and)):Con p k ts 267 (P ts (n+1) .or):=fun S i h hp hi ho=>by
 obtain⟨fn1,hf1⟩:=fX 284;obtain⟨fn2,hf2⟩:=fX 285;refine WCk Tryz.f267 ?_;have eP:P ts (n+1) .or i=(P ts n .and i).bind fun x j=>Iv ts [[111,114],[120,111,114]] (P ts n .and) n x j:=rfl
 rw[eP]at ho ⊢;clear eP;obtain⟨x1,c1,br,hp1⟩:=Jg h hp;have y2:=x1;simp only[go_sem,reduceLT,reduceEqDiff,Tryz.f267,Ui,hf1];refine WC.mono (row_p hts 285 _ ⟨_,hf2⟩ ihand [[111,114],[120,111,114]] (by decide) (by decide) n _ _ c1 hp1 hi ho) ?_
 cases hX3:(P ts n .and i).bind fun x j=>Iv ts [[111,114],[120,111,114]] (P ts n .and) n x j with
 |out=>exact absurd hX3 ho
 |bad a e =>
  rintro _ ⟨S3,rfl,x3⟩;simp only[A9,Bf,A7];exact⟨_,rfl,y2.trans x3⟩
 |ok a3 j3 =>
  rintro _ ⟨v3,S3,rfl,hr3,x3,c3,hi3⟩;obtain⟨xs3,rfl,hl3⟩:=RepE.agg hr3;have hp3:p<S3.next:=Ja0 hp1 x3.1;have y4:=(y2).trans x3;have br_4:=br.keep x3;obtain⟨g5,h5,gx,gc⟩:=Fh (S0:=S) c3 br_4 rfl (Ja1 _) y4 (xs:=xs3) hl3;simp only[go_sem,reduceLT,reduceEqDiff,g5,h5];exact⟨_,_,rfl,hr3,gx,gc,hi3⟩
theorem and_p(ihnot:Con p k ts 291 (P ts n .not)):Con p k ts 285 (P ts (n+1) .and):=fun S i h hp hi ho=>by
 obtain⟨fn1,hf1⟩:=fX 284;obtain⟨fn2,hf2⟩:=fX 291;refine WCk Tryz.f285 ?_;have eP:P ts (n+1) .and i=(P ts n .not i).bind fun x j=>Iv ts [[97,110,100]] (P ts n .not) n x j:=rfl
 rw[eP]at ho ⊢;clear eP;obtain⟨x1,c1,br,hp1⟩:=Jg h hp;have y2:=x1;simp only[go_sem,reduceLT,reduceEqDiff,Tryz.f285,hf1];refine WC.mono (row_p hts 291 _ ⟨_,hf2⟩ ihnot [[97,110,100]] (by decide) (by decide) n _ _ c1 hp1 hi ho) ?_
 cases hX3:(P ts n .not i).bind fun x j=>Iv ts [[97,110,100]] (P ts n .not) n x j with
 |out=>exact absurd hX3 ho
 |bad a e =>
  rintro _ ⟨S3,rfl,x3⟩;simp only[A9,Bf,A7];exact⟨_,rfl,y2.trans x3⟩
 |ok a3 j3 =>
  rintro _ ⟨v3,S3,rfl,hr3,x3,c3,hi3⟩;obtain⟨xs3,rfl,hl3⟩:=RepE.agg hr3;have hp3:p<S3.next:=Ja0 hp1 x3.1;have y4:=(y2).trans x3;have br_4:=br.keep x3;obtain⟨g5,h5,gx,gc⟩:=Fh (S0:=S) c3 br_4 rfl (Ja1 _) y4 (xs:=xs3) hl3;simp only[go_sem,reduceLT,reduceEqDiff,g5,h5];exact⟨_,_,rfl,hr3,gx,gc,hi3⟩
theorem sum_p(ihterm:Con p k ts 294 (P ts n .term)):Con p k ts 293 (P ts (n+1) .sum):=fun S i h hp hi ho=>by
 obtain⟨fn1,hf1⟩:=fX 284;obtain⟨fn2,hf2⟩:=fX 294;refine WCk Tryz.f293 ?_;have eP:P ts (n+1) .sum i=(P ts n .term i).bind fun x j=>Iv ts [[43],[45]] (P ts n .term) n x j:=rfl
 rw[eP]at ho ⊢;clear eP;obtain⟨x1,c1,br,hp1⟩:=Jg h hp;have y2:=x1;simp only[go_sem,reduceLT,reduceEqDiff,Tryz.f293,Ui,hf1];refine WC.mono (row_p hts 294 _ ⟨_,hf2⟩ ihterm [[43],[45]] (by decide) (by decide) n _ _ c1 hp1 hi ho) ?_
 cases hX3:(P ts n .term i).bind fun x j=>Iv ts [[43],[45]] (P ts n .term) n x j with
 |out=>exact absurd hX3 ho
 |bad a e =>
  rintro _ ⟨S3,rfl,x3⟩;simp only[A9,Bf,A7];exact⟨_,rfl,y2.trans x3⟩
 |ok a3 j3 =>
  rintro _ ⟨v3,S3,rfl,hr3,x3,c3,hi3⟩;obtain⟨xs3,rfl,hl3⟩:=RepE.agg hr3;have hp3:p<S3.next:=Ja0 hp1 x3.1;have y4:=(y2).trans x3;have br_4:=br.keep x3;obtain⟨g5,h5,gx,gc⟩:=Fh (S0:=S) c3 br_4 rfl (Ja1 _) y4 (xs:=xs3) hl3;simp only[go_sem,reduceLT,reduceEqDiff,g5,h5];exact⟨_,_,rfl,hr3,gx,gc,hi3⟩
theorem term_p(ihunary:Con p k ts 295 (P ts n .unary)):Con p k ts 294 (P ts (n+1) .term):=fun S i h hp hi ho=>by
 obtain⟨fn1,hf1⟩:=fX 284;obtain⟨fn2,hf2⟩:=fX 295;refine WCk Tryz.f294 ?_;have eP:P ts (n+1) .term i=(P ts n .unary i).bind fun x j=>Iv ts [[42],[47],[109,111,100]] (P ts n .unary) n x j:=rfl
 rw[eP]at ho ⊢;clear eP;obtain⟨x1,c1,br,hp1⟩:=Jg h hp;have y2:=x1;simp only[go_sem,reduceLT,reduceEqDiff,Tryz.f294,row69_3,hf1];refine WC.mono (row_p hts 295 _ ⟨_,hf2⟩ ihunary [[42],[47],[109,111,100]] (by decide) (by decide) n _ _ c1 hp1 hi ho) ?_
 cases hX3:(P ts n .unary i).bind fun x j=>Iv ts [[42],[47],[109,111,100]] (P ts n .unary) n x j with
 |out=>exact absurd hX3 ho
 |bad a e =>
  rintro _ ⟨S3,rfl,x3⟩;simp only[A9,Bf,A7];exact⟨_,rfl,y2.trans x3⟩
 |ok a3 j3 =>
  rintro _ ⟨v3,S3,rfl,hr3,x3,c3,hi3⟩;obtain⟨xs3,rfl,hl3⟩:=RepE.agg hr3;have hp3:p<S3.next:=Ja0 hp1 x3.1;have y4:=(y2).trans x3;have br_4:=br.keep x3;obtain⟨g5,h5,gx,gc⟩:=Fh (S0:=S) c3 br_4 rfl (Ja1 _) y4 (xs:=xs3) hl3;simp only[go_sem,reduceLT,reduceEqDiff,g5,h5];exact⟨_,_,rfl,hr3,gx,gc,hi3⟩
theorem not_p(ihnot:Con p k ts 291 (P ts n .not))(ihsum:Con p k ts 293 (P ts n .sum)):Con p k ts 291 (P ts (n+1) .not):=fun S i h hp hi ho=>by
 obtain⟨fn1,hf1⟩:=fX 173;obtain⟨fn2,hf2⟩:=fX 291;obtain⟨fn3,hf3⟩:=fX 293;obtain⟨fn4,hf4⟩:=fX 248;obtain⟨fn5,hf5⟩:=fX 290;refine WCk Tryz.f291 ?_;have eP:P ts (n+1) .not i=if(tk ts i).text∈[[110,111,116]]then(P ts n .not (i+1)).bind fun x j=>.ok (.mk 5 (tk ts i).pos 0 [] false [x]) j else(P ts n .sum i).bind fun x j=>if(tk ts j).text∈[[61],[60,62],[60],[60,61],[62],[62,61]]then(P ts n .sum (j+1)).bind fun y m=>.ok (.mk 6 (tk ts j).pos 0 (tk ts j).text false [x,y]) m else .ok x j:=rfl
 rw[eP]at ho ⊢;clear eP;obtain⟨x1,c1,br,hp1⟩:=Jg h hp;have y2:=x1
 by_cases hm:(tk ts i).text∈[[110,111,116]]
 ·rw[if_pos hm]at ho ⊢
  simp only[go_sem,reduceLT,reduceEqDiff,Tryz.f291,hf1];refine WC.mono (J1 c1 hp1 hi hts 1 0 [[110,111,116]] (by decide) (by decide) hm) ?_
  rintro _ ⟨S3,rfl,x3,c3,hi3,hp3⟩;have y4:=(y2).trans x3;have br_4:=br.keep x3;obtain⟨S5,q5,x5,c5,bt,hp5⟩:=Dq c3 hp3 (tk ts i);have y6:=(y4).trans x5;have br_6:=br_4.keep x5;have l7:=bt.ld68;simp only[go_sem,reduceLT,reduceEqDiff,hf3,q5];refine Dd [(0,true),(1,true),(2,true),(0,false),(3,true),(4,true),(5,true)] (by kernel_rfl) (by kernel_rfl) ?_
  have ne8:=Ep ho;simp only[go_sem,reduceLT,reduceEqDiff,hf2,l7];refine WC.mono (ihnot _ _ c5 hp5 hi3 ne8) ?_
  cases hX9:P ts n .not (i+1)with
  |out=>exact absurd hX9 ne8
  |bad a e =>
   rintro _ ⟨S9,rfl,x9⟩;simp only[A9,A7,Ht,I5];exact⟨_,rfl,y6.trans x9⟩
  |ok a9 j9 =>
   rw[hX9]at ho;rw[Bs]at ho ⊢;rintro _ ⟨v9,S9,rfl,hr9,x9,c9,hi9⟩;obtain⟨xs9,rfl,hl9⟩:=RepE.agg hr9;have hp9:p<S9.next:=Ja0 hp5 x9.1;have y10:=(y6).trans x9;have br_10:=br_6.keep x9;have bt_10:=bt.keep x9;have l11:=bt_10.ld68;have l12:=Uj xs9 hl9;simp only[go_sem,reduceLT,reduceEqDiff,hf4,l11,l12];refine WC.mono (Qi _ 5 (tk ts i) (.sl 1 0 6 [.agg xs9]) (.inr ⟨_,_,_,rfl⟩)) ?_;rintro _ ⟨S13,rfl,k13⟩;have x13:=k13.x p;have c13:=c9.keep hp9 k13;have hp13:p<S13.next:=Ja0 hp9 x13.1;have y14:=(y10).trans x13;have br_14:=br_10.keep x13;obtain⟨g15,h15,gx,gc⟩:=Fh (S0:=S) c13 br_14 rfl (Ja1 _) y14 (xs:=(exC 5 (tk ts i).pos 0 [] false (.sl 1 0 6 [.agg xs9]))) rfl;simp only[go_sem,reduceLT,reduceEqDiff,g15,h15];exact⟨_,_,rfl,(.mk 5 (tk ts i).pos 0 [] false _ _ (.row _ _ _ _ (.cons _ _ _ _ hr9 .nil))),gx,gc,hi9⟩
 ·rw[if_neg hm]at ho ⊢
  simp only[go_sem,reduceLT,reduceEqDiff,Tryz.f291,hf1];refine WC.mono (K7 c1 hp1 hi hts 1 0 [[110,111,116]] (by decide) hm) ?_
  rintro _ ⟨S16,rfl,x16,c16,hi16,hp16⟩;have y17:=(y2).trans x16;have br_17:=br.keep x16;obtain⟨S18,q18,x18,c18,bt0,hp18⟩:=Dq c16 hp16 B5;have y19:=(y17).trans x18;have br_19:=br_17.keep x18;have ne20:=Ep ho;simp only[go_sem,reduceLT,reduceEqDiff,hf3,q18];refine WC.mono (ihsum _ _ c18 hp18 hi16 ne20) ?_
  cases hX21:P ts n .sum i with
  |out=>exact absurd hX21 ne20
  |bad a e =>
   rintro _ ⟨S21,rfl,x21⟩;simp only[A9,Bf,A7];exact⟨_,rfl,y19.trans x21⟩
  |ok a21 j21 =>
   rw[hX21]at ho;rw[Bs]at ho ⊢;rintro _ ⟨v21,S21,rfl,hr21,x21,c21,hi21⟩;obtain⟨xs21,rfl,hl21⟩:=RepE.agg hr21;have rf21:=RepE.refl hr21;have hp21:p<S21.next:=Ja0 hp18 x21.1;have y22:=(y19).trans x21;have br_22:=br_19.keep x21;have bt0_22:=bt0.keep x21;obtain⟨S23,q23,x23,c23,bx,hp23⟩:=Sj c21 hp21 (xs:=xs21) hl21;have y24:=(y22).trans x23;have br_24:=br_22.keep x23;have bt0_24:=bt0_22.keep x23
   by_cases hm2:(tk ts j21).text∈[[61],[60,62],[60],[60,61],[62],[62,61]]
   ·rw[if_pos hm2]at ho ⊢
    simp only[go_sem,reduceLT,reduceEqDiff,row69_6,hf1,q23];refine WC.mono (J1 c23 hp23 hi21 hts 1 0 [[61],[60,62],[60],[60,61],[62],[62,61]] (by decide) (by decide) hm2) ?_
    rintro _ ⟨S25,rfl,x25,c25,hi25,hp25⟩;have y26:=(y24).trans x25;have br_26:=br_24.keep x25;have bt0_26:=bt0_24.keep x25;have bx_26:=bx.keep x25;obtain⟨S27,q27,x27,c27,bt,hp27⟩:=Dq c25 hp25 (tk ts j21);have y28:=(y26).trans x27;have br_28:=br_26.keep x27;have bt0_28:=bt0_26.keep x27;have bx_28:=bx_26.keep x27;have l29:=bt.ld68;have l30:=bx_28.ld30 hl21;simp only[go_sem,reduceLT,reduceEqDiff,q27,l30];refine Dd [(0,true),(1,true),(2,true),(3,true),(1,false),(0,false),(4,true),(5,true)] (by kernel_rfl) (by kernel_rfl) ?_
    have ne31:=Ep ho;simp only[go_sem,reduceLT,reduceEqDiff,hf3,l29,l30];refine WC.mono (ihsum _ _ c27 hp27 hi25 ne31) ?_
    cases hX32:P ts n .sum (j21+1)with
    |out=>exact absurd hX32 ne31
    |bad a e =>
     rintro _ ⟨S32,rfl,x32⟩;simp only[A9,A7,Ht,I5];exact⟨_,rfl,y28.trans x32⟩
    |ok a32 j32 =>
     rw[hX32]at ho;rw[Bs]at ho ⊢;rintro _ ⟨v32,S32,rfl,hr32,x32,c32,hi32⟩;obtain⟨xs32,rfl,hl32⟩:=RepE.agg hr32;have hp32:p<S32.next:=Ja0 hp27 x32.1;have y33:=(y28).trans x32;have br_33:=br_28.keep x32;have bt0_33:=bt0_28.keep x32;have bx_33:=bx_28.keep x32;have bt_33:=bt.keep x32;have l34:=bt_33.ld68;have l35:=bx_33.ld30 hl21;simp only[go_sem,reduceLT,reduceEqDiff,hf5,rf21,l34,l35];refine WC.mono (vW _ (tk ts j21) xs21 xs32 hl21 hl32) ?_;rintro _ ⟨S36,rfl,k36⟩;have x36:=k36.x p;have c36:=c32.keep hp32 k36;have hp36:p<S36.next:=Ja0 hp32 x36.1;have y37:=(y33).trans x36;have br_37:=br_33.keep x36;have bt0_37:=bt0_33.keep x36;obtain⟨g38,h38,gx,gc⟩:=Fh (S0:=S) c36 br_37 rfl (Ja1 _) y37 (xs:=(exC 6 (tk ts j21).pos 0 (tk ts j21).text false (.sl 1 0 6 [.agg xs21,.agg xs32]))) rfl;simp only[go_sem,reduceLT,reduceEqDiff,g38,h38];exact⟨_,_,rfl,(.mk 6 (tk ts j21).pos 0 (tk ts j21).text false _ _ (.row _ _ _ _ (.cons _ _ _ _ hr21 (.cons _ _ _ _ hr32 .nil)))),gx,gc,hi32⟩
   ·rw[if_neg hm2]at ho ⊢
    simp only[go_sem,reduceLT,reduceEqDiff,row69_6,hf1,q23];refine WC.mono (K7 c23 hp23 hi21 hts 1 0 [[61],[60,62],[60],[60,61],[62],[62,61]] (by decide) hm2) ?_
    rintro _ ⟨S39,rfl,x39,c39,hi39,hp39⟩;have y40:=(y24).trans x39;have br_40:=br_24.keep x39;have bt0_40:=bt0_24.keep x39;have bx_40:=bx.keep x39;obtain⟨S41,q41,x41,c41,bt,hp41⟩:=Dq c39 hp39 B5;have y42:=(y40).trans x41;have br_42:=br_40.keep x41;have bt0_42:=bt0_40.keep x41;have bx_42:=bx_40.keep x41;have l43:=bx_42.ld30 hl21;obtain⟨g44,h44,gx,gc⟩:=Fh (S0:=S) c41 br_42 rfl (Ja1 _) y42 (xs:=xs21) hl21;simp only[go_sem,reduceLT,reduceEqDiff,q41,l43,g44,h44];exact⟨_,_,rfl,hr21,gx,gc,hi39⟩
omit hts in
theorem fep0(t:Tk):A3 Tryz.prog 249 (.ep (Cb t)) 0=some (.ep (Cb t)):=by kernel_rfl
omit hts in
theorem fep2(t:Tk):A3 Tryz.prog 249 (.ep (Cb t)) 2=some (.ep [A2 t.text,Kf t.num]):=by kernel_rfl
omit hts in
theorem lep0(S:St)(t:Tk):A8 Tryz.prog S 3 (.ep (Cb t))=some (.v (.int .i64 (t.kind:Int))):=by simp[A8,Ca,a3,Cb,Bk]
omit hts in
theorem lep2(S:St)(t:Tk):A8 Tryz.prog S 9 (.ep [A2 t.text,Kf t.num])=some (.v (.string ⟨⟨t.text⟩⟩)):=by
 have a9:B9 Tryz.prog 9=some false:=by kernel_rfl
 simp[A8,Ca,a9,A2]
theorem below_w(S:St)(i:Nat)(h:Cur S p k ts i)(hp:p<S.next)(hi:i<ts.length):WC E1 296 [.ptr p 0] S (fun r=>∃S',r=.ret (.v (.bool (F3 ts i))) S'∧Dm S S'):=by
 refine WCk Tryz.f296 ?_;obtain⟨fn1,hf1⟩:=fX 112;have hl:=hts.size;have e0:=Gy hi;simp only[go_sem,reduceLT,Tryz.f296];refine Dd [(0,true),(1,true),(2,true),(3,true),(4,true),(5,true),(6,true),(7,true),(8,true),(9,true),(10,true),(11,true),(12,true),(13,true),(14,true),(15,true),(16,true),(17,true),(18,true),(19,true),(20,true),(21,true),(22,true),(23,true),(24,true),(25,true),(26,true),(27,true),(28,true),(29,true),(30,true),(31,true),(32,true),(33,true),(34,true),(35,true),(36,true),(37,true),(38,true),(39,true)] (by kernel_rfl) (by kernel_rfl) ?_
 simp only[go_sem,reduceLT,reduceEqDiff,hf1];refine WC.mono (O9 S p k ts i h hp hi 1 0 [[45]] (by decide)) ?_
 rintro _ ⟨S2,rfl,hk⟩;have c2:=h.keep hp hk;have d0:=c2.ld0;have d1:=c2.ld1;unfold Bk at d1;have w1:IntKind.i64.wrap ((i:Int)+1)=((i+1:Nat):Int):=I2 (j:=1) (by omega)
 have w2:IntKind.i64.wrap ((i:Int)+2)=((i+2:Nat):Int):=I2 (j:=2) (by omega)
 by_cases hm:ts[i].text∈[[45]]
 ·rw[decide_eq_true hm]
  have hm0:ts[i].text=[45]:=by simpa using hm
  have hi1:i+1<ts.length:=hts.next hi (by rw[hm0];decide)
  have q1:=idx63 k ts (i+1) hi1;have e1:=Gy hi1
  by_cases hk2:ts[i+1].kind=2
  ·have n2:(((ts[i+1].kind:Nat):Int) == 2)=true:=by rw[hk2];rfl
   have hi2:i+2<ts.length:=hts.more (i+1) hi1 (by rw[hk2];decide)
   have q2:=idx63 k ts (i+2) hi2;have e2:=Gy hi2;simp only[go_sem,Ja,D6,reduceLT,reduceEqDiff,Al,fc0,fc1,d0,d1,w1,w2,q1,q2,fep0,fep2,lep0,lep2,n2,Gb,fb_strN];refine⟨_,?_,hk⟩;simp[F3,e0,e1,e2,hm0,hk2]
  ·have n2:(((ts[i+1].kind:Nat):Int) == 2)=false:=by rw[beq_eq_false_iff_ne];omega
   simp only[go_sem,Ja,D6,reduceLT,reduceEqDiff,Al,Av,fN,fc0,fc1,d0,d1,w1,q1,fep0,lep0,n2,Gb];refine⟨_,?_,hk⟩;simp[F3,e0,e1,hm0,hk2]
 ·rw[decide_eq_false hm]
  have hm0:¬ ts[i].text=[45]:=by simpa using hm
  simp only[go_sem,reduceLT,reduceEqDiff,Av,fN];refine⟨_,?_,hk⟩;simp[F3,e0,hm0]
theorem eA:∀S i,Cur S p k ts i→p<S.next→i<ts.length→I7 ts i≠.out→WC E1 297 [.ptr p 0] S (Ot p k ts S RepE (I7 ts i)):=fun S i h hp hi _=>number_p S p k ts i h hp hi hts
theorem unary_p(ihunary:Con p k ts 295 (P ts n .unary))(ihwhen:Con p k ts 298 (P ts n .when)):Con p k ts 295 (P ts (n+1) .unary):=fun S i h hp hi ho=>by
 obtain⟨fn1,hf1⟩:=fX 173;obtain⟨fn2,hf2⟩:=fX 295;obtain⟨fn3,hf3⟩:=fX 296;obtain⟨fn4,hf4⟩:=fX 297;obtain⟨fn5,hf5⟩:=fX 298;obtain⟨fn6,hf6⟩:=fX 248;refine WCk Tryz.f295 ?_;have eP:P ts (n+1) .unary i=if(tk ts i).text∈[[112,114,101]]then(P ts n .unary (i+1)).bind fun x j=>.ok (.mk 10 (tk ts i).pos 0 [] false [x]) j else if F3 ts i=true then I7 ts i else if(tk ts i).text∈[[45]]then(P ts n .unary (i+1)).bind fun x j=>.ok (.mk 4 (tk ts i).pos 0 [] false [x]) j else P ts n .when i:=rfl
 rw[eP]at ho ⊢;clear eP;obtain⟨x1,c1,br,hp1⟩:=Jg h hp;have y2:=x1
 by_cases hm:(tk ts i).text∈[[112,114,101]]
 ·rw[if_pos hm]at ho ⊢
  simp only[go_sem,reduceLT,reduceEqDiff,Tryz.f295,hf1];refine WC.mono (J1 c1 hp1 hi hts 1 0 [[112,114,101]] (by decide) (by decide) hm) ?_
  rintro _ ⟨S3,rfl,x3,c3,hi3,hp3⟩;have y4:=(y2).trans x3;have br_4:=br.keep x3;obtain⟨S5,q5,x5,c5,bt,hp5⟩:=Dq c3 hp3 (tk ts i);have y6:=(y4).trans x5;have br_6:=br_4.keep x5;have l7:=bt.ld68;simp only[go_sem,reduceLT,reduceEqDiff,hf3,q5];refine Dd [(0,true),(1,true),(2,true),(0,false),(3,true),(4,true),(5,true)] (by kernel_rfl) (by kernel_rfl) ?_
  have ne8:=Ep ho;simp only[go_sem,reduceLT,reduceEqDiff,hf2,l7];refine WC.mono (ihunary _ _ c5 hp5 hi3 ne8) ?_
  cases hX9:P ts n .unary (i+1)with
  |out=>exact absurd hX9 ne8
  |bad a e =>
   rintro _ ⟨S9,rfl,x9⟩;simp only[A9,A7,Ht,I5];exact⟨_,rfl,y6.trans x9⟩
  |ok a9 j9 =>
   rw[hX9]at ho;rw[Bs]at ho ⊢;rintro _ ⟨v9,S9,rfl,hr9,x9,c9,hi9⟩;obtain⟨xs9,rfl,hl9⟩:=RepE.agg hr9;have hp9:p<S9.next:=Ja0 hp5 x9.1;have y10:=(y6).trans x9;have br_10:=br_6.keep x9;have bt_10:=bt.keep x9;have l11:=bt_10.ld68;have l12:=Uj xs9 hl9;simp only[go_sem,reduceLT,reduceEqDiff,hf6,l11,l12];refine WC.mono (Qi _ 10 (tk ts i) (.sl 1 0 6 [.agg xs9]) (.inr ⟨_,_,_,rfl⟩)) ?_;rintro _ ⟨S13,rfl,k13⟩;have x13:=k13.x p;have c13:=c9.keep hp9 k13;have hp13:p<S13.next:=Ja0 hp9 x13.1;have y14:=(y10).trans x13;have br_14:=br_10.keep x13;obtain⟨g15,h15,gx,gc⟩:=Fh (S0:=S) c13 br_14 rfl (Ja1 _) y14 (xs:=(exC 10 (tk ts i).pos 0 [] false (.sl 1 0 6 [.agg xs9]))) rfl;simp only[go_sem,reduceLT,reduceEqDiff,g15,h15];exact⟨_,_,rfl,(.mk 10 (tk ts i).pos 0 [] false _ _ (.row _ _ _ _ (.cons _ _ _ _ hr9 .nil))),gx,gc,hi9⟩
 ·rw[if_neg hm]at ho ⊢
  simp only[go_sem,reduceLT,reduceEqDiff,Tryz.f295,hf1];refine WC.mono (K7 c1 hp1 hi hts 1 0 [[112,114,101]] (by decide) hm) ?_
  rintro _ ⟨S16,rfl,x16,c16,hi16,hp16⟩;have y17:=(y2).trans x16;have br_17:=br.keep x16;obtain⟨S18,q18,x18,c18,bt0,hp18⟩:=Dq c16 hp16 B5;have y19:=(y17).trans x18;have br_19:=br_17.keep x18;simp only[go_sem,reduceLT,reduceEqDiff,hf3,q18];refine WC.mono (below_w hts _ i c18 hp18 hi16) ?_;rintro _ ⟨S20,rfl,k20⟩;have x20:=k20.x p;have c20:=c18.keep hp18 k20;have hp20:p<S20.next:=Ja0 hp18 x20.1;have y21:=(y19).trans x20;have br_21:=br_19.keep x20;have bt0_21:=bt0.keep x20
  by_cases hb:F3 ts i=true
  ·rw[if_pos hb]at ho ⊢
   rw[hb];simp only[go_sem,reduceLT,reduceEqDiff,hf1,hf4];refine WC.mono (eA hts _ _ c20 hp20 hi16 ho) ?_
   cases hX22:I7 ts i with
   |out=>exact absurd hX22 ho
   |bad a e =>
    rintro _ ⟨S22,rfl,x22⟩;simp only[A9,Bf,A7];exact⟨_,rfl,y21.trans x22⟩
   |ok a22 j22 =>
    rintro _ ⟨v22,S22,rfl,hr22,x22,c22,hi22⟩;obtain⟨xs22,rfl,hl22⟩:=RepE.agg hr22;have hp22:p<S22.next:=Ja0 hp20 x22.1;have y23:=(y21).trans x22;have br_23:=br_21.keep x22;have bt0_23:=bt0_21.keep x22;obtain⟨g24,h24,gx,gc⟩:=Fh (S0:=S) c22 br_23 rfl (Ja1 _) y23 (xs:=xs22) hl22;simp only[go_sem,reduceLT,reduceEqDiff,g24,h24];exact⟨_,_,rfl,hr22,gx,gc,hi22⟩
  ·rw[if_neg hb]at ho ⊢
   have hb2:F3 ts i=false:=by simpa using hb
   rw[hb2]
   by_cases hm2:(tk ts i).text∈[[45]]
   ·rw[if_pos hm2]at ho ⊢
    simp only[go_sem,reduceLT,reduceEqDiff,hf1,hf4];refine WC.mono (J1 c20 hp20 hi16 hts 1 0 [[45]] (by decide) (by decide) hm2) ?_
    rintro _ ⟨S25,rfl,x25,c25,hi25,hp25⟩;have y26:=(y21).trans x25;have br_26:=br_21.keep x25;have bt0_26:=bt0_21.keep x25;obtain⟨S27,q27,x27,c27,bt,hp27⟩:=Dq c25 hp25 (tk ts i);have y28:=(y26).trans x27;have br_28:=br_26.keep x27;have bt0_28:=bt0_26.keep x27;have l29:=bt.ld68;simp only[go_sem,reduceLT,reduceEqDiff,hf5,q27];refine Dd [(0,true),(1,true),(2,true),(0,false),(3,true),(4,true),(5,true)] (by kernel_rfl) (by kernel_rfl) ?_
    have ne30:=Ep ho;simp only[go_sem,reduceLT,reduceEqDiff,hf2,l29];refine WC.mono (ihunary _ _ c27 hp27 hi25 ne30) ?_
    cases hX31:P ts n .unary (i+1)with
    |out=>exact absurd hX31 ne30
    |bad a e =>
     rintro _ ⟨S31,rfl,x31⟩;simp only[A9,A7,Ht,I5];exact⟨_,rfl,y28.trans x31⟩
    |ok a31 j31 =>
     rw[hX31]at ho;rw[Bs]at ho ⊢;rintro _ ⟨v31,S31,rfl,hr31,x31,c31,hi31⟩;obtain⟨xs31,rfl,hl31⟩:=RepE.agg hr31;have hp31:p<S31.next:=Ja0 hp27 x31.1;have y32:=(y28).trans x31;have br_32:=br_28.keep x31;have bt0_32:=bt0_28.keep x31;have bt_32:=bt.keep x31;have l33:=bt_32.ld68;have l34:=Uj xs31 hl31;simp only[go_sem,reduceLT,reduceEqDiff,hf6,l33,l34];refine WC.mono (Qi _ 4 (tk ts i) (.sl 1 0 6 [.agg xs31]) (.inr ⟨_,_,_,rfl⟩)) ?_;rintro _ ⟨S35,rfl,k35⟩;have x35:=k35.x p;have c35:=c31.keep hp31 k35;have hp35:p<S35.next:=Ja0 hp31 x35.1;have y36:=(y32).trans x35;have br_36:=br_32.keep x35;have bt0_36:=bt0_32.keep x35;obtain⟨g37,h37,gx,gc⟩:=Fh (S0:=S) c35 br_36 rfl (Ja1 _) y36 (xs:=(exC 4 (tk ts i).pos 0 [] false (.sl 1 0 6 [.agg xs31]))) rfl;simp only[go_sem,reduceLT,reduceEqDiff,g37,h37];exact⟨_,_,rfl,(.mk 4 (tk ts i).pos 0 [] false _ _ (.row _ _ _ _ (.cons _ _ _ _ hr31 .nil))),gx,gc,hi31⟩
   ·rw[if_neg hm2]at ho ⊢
    simp only[go_sem,reduceLT,reduceEqDiff,hf1,hf4];refine WC.mono (K7 c20 hp20 hi16 hts 1 0 [[45]] (by decide) hm2) ?_
    rintro _ ⟨S38,rfl,x38,c38,hi38,hp38⟩;have y39:=(y21).trans x38;have br_39:=br_21.keep x38;have bt0_39:=bt0_21.keep x38;obtain⟨S40,q40,x40,c40,bt,hp40⟩:=Dq c38 hp38 B5;have y41:=(y39).trans x40;have br_41:=br_39.keep x40;have bt0_41:=bt0_39.keep x40;simp only[go_sem,reduceLT,reduceEqDiff,hf5,q40];refine WC.mono (ihwhen _ _ c40 hp40 hi38 ho) ?_
    cases hX42:P ts n .when i with
    |out=>exact absurd hX42 ho
    |bad a e =>
     rintro _ ⟨S42,rfl,x42⟩;simp only[A9,Bf,A7];exact⟨_,rfl,y41.trans x42⟩
    |ok a42 j42 =>
     rintro _ ⟨v42,S42,rfl,hr42,x42,c42,hi42⟩;obtain⟨xs42,rfl,hl42⟩:=RepE.agg hr42;have hp42:p<S42.next:=Ja0 hp40 x42.1;have y43:=(y41).trans x42;have br_43:=br_41.keep x42;have bt0_43:=bt0_41.keep x42;obtain⟨g44,h44,gx,gc⟩:=Fh (S0:=S) c42 br_43 rfl (Ja1 _) y43 (xs:=xs42) hl42;simp only[go_sem,reduceLT,reduceEqDiff,g44,h44];exact⟨_,_,rfl,hr42,gx,gc,hi42⟩
end
end
end Go.Ax
