/- ZbPh -/
import Derived.Test.YtimbgdjbggdgmaaGreatDoorNcZbPg
set_option linter.unusedVariables false
set_option linter.unusedSimpArgs false
set_option maxHeartbeats 16000000
noncomputable section
open Nat (reduceLT reduceEqDiff)
namespace Go.Ax
open Go.RowKit Go.Proofs
set_option maxRecDepth 100000
section
attribute [local go_sem] List.append_nil List.getElem?_cons_succ List.getElem?_cons_zero List.nil_append Option.getD_some T.get_leaf T.get_set B1 Dc Dr Hj Bz Dl Dz Db Ty Ea Ct Ew Fi Ms Ff A6 Bg Bv B3 By fa2 fd1 Bm fp0 Cm Ge if_false if_true Cx C9 Gw D3 Bo ofOpt ofOptS C8 Cc Bu Ba Cd Hl Er De C7 true_and D8 Bc
theorem A4{E:Env}{n:Nat}{f:Fr}{S:St}{Q:O→Prop}{b:Code}:nL E n b Q (.out .normal f S)=W E n b f S Q:=id rfl
theorem Bn{E:Env}{n:Nat}{f:Fr}{S:St}{Q:O→Prop}{ops:Array Oper}:WL E n ops [] f S Q=Q (.out .normal f S):=id rfl
theorem Jy{E:Env}{n:Nat}{f:Fr}{S:St}{Q:O→Prop}{ops:Array Oper}:WR E n ops [] f S Q=Q (.out .normal f S):=id rfl
section
variable {S:St} {p k i T n:Nat} {ts:List Tk}
theorem stG(hs:Cl Tryz.prog T=some n){id:Nat}{cs ys:List AV}(h:S.mem.get id=some (.box cs))(hl:cs.length=n)(hy:ys.length=n):Bl Tryz.prog S T (.ptr id 0) (.agg ys)=some (S.put id ys):=by
 have h2:(AV.agg ys).noTup=true:=rfl;simp[Bl,h,hs,h2,AV.cells,hl,hy,St.put,Jc3]
theorem ldG(ha:B9 Tryz.prog T=some true)(hs:Cl Tryz.prog T=some n){id:Nat}{cs:List AV}(h:S.mem.get id=some (.box cs))(hl:cs.length=n):A8 Tryz.prog S T (.ptr id 0)=some (.agg cs):=by
 have e:cs.take n=cs:=Jd2 (by omega)
 simp[A8,Ca,h,ha,hs,hl,e]
theorem tE(Z:List AV)(h:Cur S p k ts i)(hp:p<S.next):C4 p S (S.newBox Z)∧Cur (S.newBox Z) p k ts i∧Has p (S.newBox Z) S.next Z∧p<(S.newBox Z).next :=
 ⟨Jj S Z,h.new hp Z,⟨Co S _,Ja5 _,by omega⟩,Jb0 hp⟩
theorem boxG2(hs:Cl Tryz.prog T=some n)(Z:List AV)(hz:Z.length=n)(h:Cur S p k ts i)(hp:p<S.next){xs:List AV}(hx:xs.length=n):∃S',Bl Tryz.prog (S.newBox Z) T (.ptr S.next 0) (.agg xs)=some S'∧C4 p S S'∧Cur S' p k ts i∧Has p S' S.next xs∧p<S'.next :=
 ⟨_,stG hs (Co S _) hz hx,Ig (Jj S _) (Ja1 _) _,(h.new hp _).put (by omega) _,⟨Dv _ _ _,Ja5 _,by omega⟩,Jb0 hp⟩
theorem Xg(ha:B9 Tryz.prog T=some true)(hs:Cl Tryz.prog T=some n){S0:St}{b:Nat}{cs:List AV}(h:Cur S p k ts i)(hb:Has p S b cs)(hl:cs.length=n)(hle:S0.next≤b)(x:C4 p S0 S){xs:List AV}(hx:xs.length=n):
  Bl Tryz.prog S T (.ptr b 0) (.agg xs)=some (S.put b xs)∧A8 Tryz.prog (S.put b xs) T (.ptr b 0)=some (.agg xs)∧C4 p S0 (S.put b xs)∧Cur (S.put b xs) p k ts i :=
 ⟨stG hs hb.get hl hx,ldG ha hs (Dv _ _ _) hx,Ig x hle _,h.put (fun e=>hb.ne e.symm) _⟩
end
theorem zX:B9 Tryz.prog 162=some true:=by kernel_rfl
theorem cG:Cl Tryz.prog 162=some 6:=by kernel_rfl
def iE:List AV:=[A2 [],Bk 0,.v (.bool false),.v (.bool false),A2 [],.v (.bool false)]
theorem vY(S:St):Ga Tryz.prog S 162=some (.ptr S.next 0,S.newBox iE):=by kernel_rfl
theorem ag59:B9 Tryz.prog 92=some true:=by kernel_rfl
theorem rE:Cl Tryz.prog 92=some 2:=by kernel_rfl
def zC59:List AV:=[A2 [],Bk 0]
theorem alo59(S:St):Ga Tryz.prog S 92=some (.ptr S.next 0,S.newBox zC59):=by kernel_rfl
structure PD where
 name:List UInt8
 pos:Nat
 bool:Bool
 fut:Bool
 clock:List UInt8
 off:Bool
def Fy(d:PD):List AV:=[A2 d.name,Bk d.pos,.v (.bool d.bool),.v (.bool d.fut),A2 d.clock,.v (.bool d.off)]
def D7(d:PD):AV:=.agg (Fy d)
def fA(v:AV)(d:PD):Prop:=v=D7 d
def Il(d:List UInt8 × Nat):List AV:=[A2 d.1,Bk d.2]
def Fg(d:List UInt8 × Nat):AV:=.agg (Il d)
def yM(v:AV)(d:List UInt8 × Nat):Prop:=v=Fg d
def El(ts:List Tk)(i:Nat):PR PD:=(Eu ts 1 i).bind fun t j=>(B2 ts [[58]] j).bind fun _ j=>if(tk ts j).text∈[[102,117,116,117,114,101]]then(B2 ts [[105,110,116],[98,111,111,108]] (j+1)).bind fun u m=>.ok ⟨t.text,t.pos,decide (u.text=[98,111,111,108]),true,[],false⟩ m else(B2 ts [[105,110,116],[98,111,111,108]] j).bind fun u m=>.ok ⟨t.text,t.pos,decide (u.text=[98,111,111,108]),false,[],false⟩ m
def D5(ts:List Tk)(i:Nat):PR PD:=(El ts i).bind fun d j=>if(tk ts j).text∈[[119,104,101,110]]then(Gg ts (j+1)).bind fun c j=>(B2 ts [[59]] j).bind fun _ j=>.ok { d with clock:=c.1,off:=c.2 } j else(B2 ts [[59]] j).bind fun _ j=>.ok d j
def Hb(ts:List Tk)(i:Nat):PR (List UInt8 × Nat):=(Eu ts 1 i).bind fun t j=>.ok (t.text,t.pos) j
theorem eS(ts:List Tk)(i:Nat):Hb ts i≠.out:=by
 unfold Hb
 cases h:Eu ts 1 i with
 |out=>exact absurd h (K4 _ _ _)
 |bad a e=>exact fun e=>by cases e
 |ok a j=>exact fun e=>by cases e
theorem Xr(ts:List Tk)(i:Nat):El ts i≠.out:=by
 unfold El
 cases h:Eu ts 1 i with
 |out=>exact absurd h (K4 _ _ _)
 |bad a e=>exact fun e=>by cases e
 |ok a j =>
  rw[Bs]
  cases h:B2 ts [[58]] j with
  |out=>exact absurd h (Fa _ _ _)
  |bad a e=>exact fun e=>by cases e
  |ok a j =>
   rw[Bs]
   split
   ·cases h:B2 ts [[105,110,116],[98,111,111,108]] (j+1)with
    |out=>exact absurd h (Fa _ _ _)
    |bad a e=>exact fun e=>by cases e
    |ok a j=>exact fun e=>by cases e
   ·cases h:B2 ts [[105,110,116],[98,111,111,108]] j with
    |out=>exact absurd h (Fa _ _ _)
    |bad a e=>exact fun e=>by cases e
    |ok a j=>exact fun e=>by cases e
theorem mA(ts:List Tk)(i:Nat):Gg ts i≠.out:=by
 unfold Gg
 split
 ·cases h:Eu ts 1 (i+1)with
  |out=>exact absurd h (K4 _ _ _)
  |bad a e=>exact fun e=>by cases e
  |ok a j=>exact fun e=>by cases e
 ·cases h:Eu ts 1 i with
  |out=>exact absurd h (K4 _ _ _)
  |bad a e=>exact fun e=>by cases e
  |ok a j=>exact fun e=>by cases e
theorem aB(ts:List Tk)(i:Nat):D5 ts i≠.out:=by
 unfold D5
 cases h:El ts i with
 |out=>exact absurd h (Xr _ _)
 |bad a e=>exact fun e=>by cases e
 |ok a j =>
  rw[Bs]
  split
  ·cases h:Gg ts (j+1)with
   |out=>exact absurd h (mA _ _)
   |bad a e=>exact fun e=>by cases e
   |ok a j =>
    rw[Bs]
    cases h:B2 ts [[59]] j with
    |out=>exact absurd h (Fa _ _ _)
    |bad a e=>exact fun e=>by cases e
    |ok a j=>exact fun e=>by cases e
  ·cases h:B2 ts [[59]] j with
   |out=>exact absurd h (Fa _ _ _)
   |bad a e=>exact fun e=>by cases e
   |ok a j=>exact fun e=>by cases e
theorem b52(x y:Bool):Du Tryz.prog 72 [(0,.v (.bool x)),(1,.v (.bool y))]=some (.agg [.v (.bool x),.v (.bool y)]):=by kernel_rfl
theorem b54(s:List UInt8)(a:Nat)(x y:Bool):Du Tryz.prog 162 [(0,.v (.string ⟨⟨s⟩⟩)),(1,.v (.int .i64 (a:Int))),(2,.agg [.v (.bool x),.v (.bool y)])]=some (.agg (Fy ⟨s,a,x,y,[],false⟩)):=by kernel_rfl
theorem b59(s:List UInt8)(a:Nat):Du Tryz.prog 92 [(0,.v (.string ⟨⟨s⟩⟩)),(1,.v (.int .i64 (a:Int)))]=some (.agg (Il (s,a))):=by kernel_rfl
def wI{α:Type}(p k:Nat)(ts:List Tk)(fid:Nat)(Rep:AV→α→Prop)(x:Nat→PR α):Prop:=∀S i,Cur S p k ts i→p<S.next→i<ts.length→WC E1 fid [.ptr p 0] S (Ot p k ts S Rep (x i))
theorem yZ(b:Nat):A3 Tryz.prog 162 (.ptr b 0) 3=some (.ptr b 4):=by kernel_rfl
theorem yY(b:Nat):A3 Tryz.prog 162 (.ptr b 0) 4=some (.ptr b 5):=by kernel_rfl
theorem xA{S:St}{id:Nat}{d:PD}(h:S.mem.get id=some (.box (Fy d)))(s:List UInt8):Bl Tryz.prog S 9 (.ptr id 4) (A2 s)=some (S.put id (Fy { d with clock:=s })):=by
 have h2:(A2 s).noTup=true:=rfl;have h3:(A2 s).cells=[A2 s]:=rfl;simp[Bl,h,s9,h2,h3,St.put,Fy]
theorem st54_off{S:St}{id:Nat}{d:PD}(h:S.mem.get id=some (.box (Fy d)))(o:Bool):Bl Tryz.prog S 4 (.ptr id 5) (.v (.bool o))=some (S.put id (Fy { d with off:=o })):=by
 have h2:(AV.v (.bool o)).noTup=true:=rfl;have s4:Cl Tryz.prog 4=some 1:=by kernel_rfl
 simp[Bl,h,s4,h2,AV.cells,St.put,Fy]
section
variable {p k:Nat} {ts:List Tk} (hts:TokOk ts)
include hts
theorem yG:wI p k ts 243 yM (Hb ts):=fun S i h hp hi=>by
 obtain⟨fn1,hf1⟩:=fX 170;refine WCk Tryz.f243 ?_;unfold Hb;obtain⟨x1,c1,br,hp1⟩:=tE zC59 h hp;have y2:=x1;simp only[go_sem,A4,Bn,reduceLT,reduceEqDiff,Tryz.f243,hf1,alo59];refine WC.mono (R3 c1 hp1 hi hts 1 (by decide)) ?_
 cases hX3:Eu ts 1 i with
 |out=>exact absurd hX3 (K4 _ _ _)
 |bad a e =>
  rintro _ ⟨S3,rfl,x3⟩;simp only[A9,Bf,A7];exact⟨_,rfl,y2.trans x3⟩
 |ok a3 j3 =>
  rintro _ ⟨_,S3,rfl,rfl,x3,c3,hi3⟩;have hp3:p<S3.next:=Ja0 hp1 x3.1;have y4:=(y2).trans x3;have br_4:=br.keep x3;rw[Bs];obtain⟨S5,q5,x5,c5,bt,hp5⟩:=Dq c3 hp3 a3;have y6:=(y4).trans x5;have br_6:=br_4.keep x5;have lp:=bt.pos;have lt:=bt.text;simp only[go_sem,A4,Bn,reduceLT,reduceEqDiff,q5,lp,lt,b59];obtain⟨g7,h7,gx,gc⟩:=Xg ag59 rE (S0:=S) c5 br_6 rfl (Ja1 _) y6 (xs:=(Il (a3.text,a3.pos))) rfl;simp only[Dl,A4,Bn,B3,Cc,A0,A1,Ff,Bm,Cm,Ba,D8,reduceEqDiff,Aa,Ab,g7,h7];exact⟨_,_,rfl,rfl,gx,gc,hi3⟩
theorem zM:wI p k ts 172 fA (El ts):=fun S i h hp hi=>by
 obtain⟨fn1,hf1⟩:=fX 170;obtain⟨fn2,hf2⟩:=fX 173;obtain⟨fn3,hf3⟩:=fX 169;refine WCk Tryz.f172 ?_;unfold El;obtain⟨x1,c1,br,hp1⟩:=tE iE h hp;have y2:=x1;simp only[go_sem,A4,Bn,reduceLT,reduceEqDiff,Tryz.f172,hf1,vY];refine WC.mono (R3 c1 hp1 hi hts 1 (by decide)) ?_
 cases hX3:Eu ts 1 i with
 |out=>exact absurd hX3 (K4 _ _ _)
 |bad a e =>
  rintro _ ⟨S3,rfl,x3⟩;simp only[A9,Bf,A7];exact⟨_,rfl,y2.trans x3⟩
 |ok a3 j3 =>
  rintro _ ⟨_,S3,rfl,rfl,x3,c3,hi3⟩;have hp3:p<S3.next:=Ja0 hp1 x3.1;have y4:=(y2).trans x3;have br_4:=br.keep x3;rw[Bs];obtain⟨S5,q5,x5,c5,bt,hp5⟩:=Dq c3 hp3 a3;have y6:=(y4).trans x5;have br_6:=br_4.keep x5;simp only[go_sem,A4,Bn,reduceLT,reduceEqDiff,hf3,q5];refine WC.mono (Hq c5 hp5 hi3 hts 1 0 [[58]] (by decide) (by decide)) ?_
  cases hX7:B2 ts [[58]] j3 with
  |out=>exact absurd hX7 (Fa _ _ _)
  |bad a e =>
   rintro _ ⟨S7,rfl,x7⟩;simp only[A9,Bf,A7];exact⟨_,rfl,y6.trans x7⟩
  |ok a7 j7 =>
   rintro _ ⟨_,S7,rfl,rfl,x7,c7,hi7⟩;have hp7:p<S7.next:=Ja0 hp5 x7.1;have y8:=(y6).trans x7;have br_8:=br_6.keep x7;have bt_8:=bt.keep x7;rw[Bs]
   by_cases hm:(tk ts j7).text∈[[102,117,116,117,114,101]]
   ·rw[if_pos hm]
    simp only[go_sem,A4,Bn,reduceLT,reduceEqDiff,hf2];refine WC.mono (J1 c7 hp7 hi7 hts 1 0 [[102,117,116,117,114,101]] (by decide) (by decide) hm) ?_
    rintro _ ⟨S9,rfl,x9,c9,hi9,hp9⟩;have y10:=(y8).trans x9;have br_10:=br_8.keep x9;have bt_10:=bt_8.keep x9;obtain⟨S11,q11,x11,c11,bf,hp11⟩:=Dq c9 hp9 (tk ts j7);have y12:=(y10).trans x11;have br_12:=br_10.keep x11;have bt_12:=bt_10.keep x11;simp only[go_sem,A4,Bn,reduceLT,reduceEqDiff,Ui,hf3,q11];refine WC.mono (Hq c11 hp11 hi9 hts 1 0 [[105,110,116],[98,111,111,108]] (by decide) (by decide)) ?_
    cases hX13:B2 ts [[105,110,116],[98,111,111,108]] (j7+1)with
    |out=>exact absurd hX13 (Fa _ _ _)
    |bad a e =>
     rintro _ ⟨S13,rfl,x13⟩;simp only[A9,Bf,A7];exact⟨_,rfl,y12.trans x13⟩
    |ok a13 j13 =>
     rintro _ ⟨_,S13,rfl,rfl,x13,c13,hi13⟩;have hp13:p<S13.next:=Ja0 hp11 x13.1;have y14:=(y12).trans x13;have br_14:=br_12.keep x13;have bt_14:=bt_12.keep x13;have bf_14:=bf.keep x13;rw[Bs];obtain⟨S15,q15,x15,c15,bu,hp15⟩:=Dq c13 hp13 a13;have y16:=(y14).trans x15;have br_16:=br_14.keep x15;have bt_16:=bt_14.keep x15;have bf_16:=bf_14.keep x15;have lp:=bt_16.pos;have lt:=bt_16.text;have lu:=bu.text;simp only[go_sem,A4,Bn,reduceLT,reduceEqDiff,Am,q15,lp,lt,lu,Gb,G7,b52,b54];obtain⟨g17,h17,gx,gc⟩:=Xg zX cG (S0:=S) c15 br_16 rfl (Ja1 _) y16 (xs:=(Fy ⟨a3.text,a3.pos,decide (a13.text=[98,111,111,108]),true,[],false⟩)) rfl;simp only[Dl,A4,Bn,B3,Cc,A0,A1,Ff,Bm,Cm,Ba,D8,reduceEqDiff,Aa,Ab,g17,h17];exact⟨_,_,rfl,rfl,gx,gc,hi13⟩
   ·rw[if_neg hm]
    simp only[go_sem,A4,Bn,reduceLT,reduceEqDiff,hf2];refine WC.mono (K7 c7 hp7 hi7 hts 1 0 [[102,117,116,117,114,101]] (by decide) hm) ?_
    rintro _ ⟨S18,rfl,x18,c18,hi18,hp18⟩;have y19:=(y8).trans x18;have br_19:=br_8.keep x18;have bt_19:=bt_8.keep x18;obtain⟨S20,q20,x20,c20,bf,hp20⟩:=Dq c18 hp18 B5;have y21:=(y19).trans x20;have br_21:=br_19.keep x20;have bt_21:=bt_19.keep x20;simp only[go_sem,A4,Bn,reduceLT,reduceEqDiff,Ui,hf3,q20];refine WC.mono (Hq c20 hp20 hi18 hts 1 0 [[105,110,116],[98,111,111,108]] (by decide) (by decide)) ?_
    cases hX22:B2 ts [[105,110,116],[98,111,111,108]] j7 with
    |out=>exact absurd hX22 (Fa _ _ _)
    |bad a e =>
     rintro _ ⟨S22,rfl,x22⟩;simp only[A9,Bf,A7];exact⟨_,rfl,y21.trans x22⟩
    |ok a22 j22 =>
     rintro _ ⟨_,S22,rfl,rfl,x22,c22,hi22⟩;have hp22:p<S22.next:=Ja0 hp20 x22.1;have y23:=(y21).trans x22;have br_23:=br_21.keep x22;have bt_23:=bt_21.keep x22;have bf_23:=bf.keep x22;rw[Bs];obtain⟨S24,q24,x24,c24,bu,hp24⟩:=Dq c22 hp22 a22;have y25:=(y23).trans x24;have br_25:=br_23.keep x24;have bt_25:=bt_23.keep x24;have bf_25:=bf_23.keep x24;have lp:=bt_25.pos;have lt:=bt_25.text;have lu:=bu.text;simp only[go_sem,A4,Bn,reduceLT,reduceEqDiff,Am,q24,lp,lt,lu,Gb,G7,b52,b54];obtain⟨g26,h26,gx,gc⟩:=Xg zX cG (S0:=S) c24 br_25 rfl (Ja1 _) y25 (xs:=(Fy ⟨a3.text,a3.pos,decide (a22.text=[98,111,111,108]),false,[],false⟩)) rfl;simp only[Dl,A4,Bn,B3,Cc,A0,A1,Ff,Bm,Cm,Ba,D8,reduceEqDiff,Aa,Ab,g26,h26];exact⟨_,_,rfl,rfl,gx,gc,hi22⟩
theorem lY:wI p k ts 216 fA (D5 ts):=fun S i h hp hi=>by
 obtain⟨fn1,hf1⟩:=fX 172;obtain⟨fn2,hf2⟩:=fX 173;obtain⟨fn3,hf3⟩:=fX 242;obtain⟨fn4,hf4⟩:=fX 169;refine WCk Tryz.f216 ?_;unfold D5;obtain⟨x1,c1,br,hp1⟩:=tE iE h hp;have y2:=x1;simp only[go_sem,A4,Bn,reduceLT,reduceEqDiff,Tryz.f216,hf1,vY];refine WC.mono (zM hts _ _ c1 hp1 hi) ?_
 cases hX3:El ts i with
 |out=>exact absurd hX3 (Xr _ _)
 |bad a e =>
  rintro _ ⟨S3,rfl,x3⟩;simp only[A9,Bf,A7];exact⟨_,rfl,y2.trans x3⟩
 |ok a3 j3 =>
  rintro _ ⟨_,S3,rfl,rfl,x3,c3,hi3⟩;have hp3:p<S3.next:=Ja0 hp1 x3.1;have y4:=(y2).trans x3;have br_4:=br.keep x3;rw[Bs];have hda:D7 a3=.agg (Fy a3):=rfl;obtain⟨S5,q5,x5,c5,bd,hp5⟩:=boxG2 cG iE rfl c3 hp3 (xs:=Fy a3) rfl;have y6:=(y4).trans x5;have br_6:=br_4.keep x5
  by_cases hm:(tk ts j3).text∈[[119,104,101,110]]
  ·rw[if_pos hm]
   simp only[go_sem,A4,Bn,reduceLT,reduceEqDiff,hf2,vY,hda,q5];refine WC.mono (J1 c5 hp5 hi3 hts 1 0 [[119,104,101,110]] (by decide) (by decide) hm) ?_
   rintro _ ⟨S7,rfl,x7,c7,hi7,hp7⟩;have y8:=(y6).trans x7;have br_8:=br_6.keep x7;have bd_8:=bd.keep x7;obtain⟨S9,q9,x9,c9,bt,hp9⟩:=Dq c7 hp7 (tk ts j3);have y10:=(y8).trans x9;have br_10:=br_8.keep x9;have bd_10:=bd_8.keep x9;simp only[go_sem,A4,Bn,reduceLT,reduceEqDiff,hf3,hf4,q9];have hne:S3.next≠S.next:=by have:=br_4.lt;omega
   refine WC.mono (clock_p _ _ _ _ _ c9 hp9 hi7 hts) ?_
   cases hX11:Gg ts (j3+1)with
   |out=>exact absurd hX11 (mA _ _)
   |bad a e =>
    rintro _ ⟨S11,rfl,x11⟩;simp only[A9,Bf,A7];exact⟨_,rfl,y10.trans x11⟩
   |ok a11 j11 =>
    rintro _ ⟨_,S11,rfl,rfl,x11,c11,hi11⟩;have hp11:p<S11.next:=Ja0 hp9 x11.1;have y12:=(y10).trans x11;have br_12:=br_10.keep x11;have bd_12:=bd_10.keep x11;rw[Bs];have st901:=xA bd_12.get a11.1;obtain⟨px901,pc901,pb901,pr901⟩:=U4 (ys:=Fy { a3 with clock:=a11.1 }) y12 y4.1 bd_12 c11 br_12 hne
    have st902:=st54_off (d:={ a3 with clock:=a11.1 }) pb901.get a11.2
    obtain⟨px902,pc902,pb902,pr902⟩:=U4 (ys:=Fy { a3 with clock:=a11.1,off:=a11.2 }) px901 y4.1 pb901 pc901 pr901 hne
    simp only[go_sem,A4,Bn,reduceLT,reduceEqDiff,hf4,yZ,yY,st901,st902];refine WC.mono (Hq pc902 hp11 hi11 hts 1 0 [[59]] (by decide) (by decide)) ?_
    cases hX13:B2 ts [[59]] j11 with
    |out=>exact absurd hX13 (Fa _ _ _)
    |bad a e =>
     rintro _ ⟨S13,rfl,x13⟩;simp only[A9,Bf,A7];exact⟨_,rfl,px902.trans x13⟩
    |ok a13 j13 =>
     rintro _ ⟨_,S13,rfl,rfl,x13,c13,hi13⟩;have hp13:p<S13.next:=Ja0 hp11 x13.1;have y14:=(px902).trans x13;have bd_14:=pb902.keep x13;have br_14:=pr902.keep x13;rw[Bs];have l15:=ldG zX cG bd_14.get rfl;obtain⟨g16,h16,gx,gc⟩:=Xg zX cG (S0:=S) c13 br_14 rfl (Ja1 _) y14 (xs:=(Fy { a3 with clock:=a11.1,off:=a11.2 })) rfl
     simp only[go_sem,A4,Bn,reduceLT,reduceEqDiff,l15,g16,h16];exact⟨_,_,rfl,rfl,gx,gc,hi13⟩
  ·rw[if_neg hm]
   simp only[go_sem,A4,Bn,reduceLT,reduceEqDiff,hf2,vY,hda,q5];refine WC.mono (K7 c5 hp5 hi3 hts 1 0 [[119,104,101,110]] (by decide) hm) ?_
   rintro _ ⟨S17,rfl,x17,c17,hi17,hp17⟩;have y18:=(y6).trans x17;have br_18:=br_6.keep x17;have bd_18:=bd.keep x17;obtain⟨S19,q19,x19,c19,bt,hp19⟩:=Dq c17 hp17 B5;have y20:=(y18).trans x19;have br_20:=br_18.keep x19;have bd_20:=bd_18.keep x19;simp only[go_sem,A4,Bn,reduceLT,reduceEqDiff,hf3,hf4,q19];refine WC.mono (Hq c19 hp19 hi17 hts 1 0 [[59]] (by decide) (by decide)) ?_
   cases hX21:B2 ts [[59]] j3 with
   |out=>exact absurd hX21 (Fa _ _ _)
   |bad a e =>
    rintro _ ⟨S21,rfl,x21⟩;simp only[A9,Bf,A7];exact⟨_,rfl,y20.trans x21⟩
   |ok a21 j21 =>
    rintro _ ⟨_,S21,rfl,rfl,x21,c21,hi21⟩;have hp21:p<S21.next:=Ja0 hp19 x21.1;have y22:=(y20).trans x21;have br_22:=br_20.keep x21;have bd_22:=bd_20.keep x21;rw[Bs];have l23:=ldG zX cG bd_22.get rfl;obtain⟨g24,h24,gx,gc⟩:=Xg zX cG (S0:=S) c21 br_22 rfl (Ja1 _) y22 (xs:=(Fy a3)) rfl;simp only[go_sem,A4,Bn,reduceLT,reduceEqDiff,l23,g24,h24];exact⟨_,_,rfl,rfl,gx,gc,hi21⟩
omit hts
end
def Ft{α:Type}(ts:List Tk)(kid:Nat→PR α):Nat→List α→Nat→PR (List α)
 |0,_,_=>.out
 |n+1,l,i=>if(tk ts i).text∈[[44]]then(kid (i+1)).bind fun y j=>Ft ts kid n (l ++ [y]) j else(B2 ts [[41]] i).bind fun _ j=>.ok l j
def Hz{α:Type}(ts:List Tk)(kid:Nat→PR α)(n i:Nat):PR (List α):=(B2 ts [[40]] i).bind fun _ j=>if(tk ts j).text∈[[41]]then .ok [] (j+1)else(kid j).bind fun x m=>Ft ts kid n [x] m
def Ub(sz lo:Nat)(S:St)(tok:Nat)(es:List AV):Prop:=tok=1∨(2≤tok∧lo≤tok∧tok<S.next∧S.mem.get tok=some (.tip (es.length*sz)))
theorem Ub.keep{sz lo p:Nat}{S S':St}{tok:Nat}{es:List AV}(h:Ub sz lo S tok es)(k:C4 p S S')(hp:p<lo):Ub sz lo S' tok es:=by
 rcases h with h | ⟨h1,h2,h3,h4⟩
 ·exact .inl h
 ·exact .inr ⟨h1,h2,Ja0 h3 k.1,by rw[k.2 tok h3 (by omega)];exact h4⟩
def H8{α:Type}(sz:Nat)(A:α→AV)(v:AV)(l:List α):Prop:=(v=.nils∧l=[])∨∃tok off,v=.sl tok off sz (l.map A)
theorem i54:(Tryz.prog.info? 162).map (fun i=>(i.zero,i.size,i.bytes))=some (some (.agg #[.string ⟨#[]⟩,.int .i64 0,.bool false,.bool false,.string ⟨#[]⟩,.bool false]),6,56):=by kernel_rfl
theorem el46:Fs Tryz.prog 35=some (none,162):=by kernel_rfl
theorem un46:Tryz.prog.underlying 35=some (.slice 162):=by kernel_rfl
theorem app46(S:St)(a b:AV):Ej E1 S 35 35 a b=Ds Tryz.prog S 35 35 a b:=rfl
theorem zr54:Kb Tryz.prog 162=some (.agg iE):=by kernel_rfl
theorem aT(xs:List AV)(hx:xs.length=6):Bd Tryz.prog 35 1 [(0,.agg xs)]=some (.sl 1 0 6 [.agg xs]):=by
 simp[Bd,el46,cG,zr54,Cr,Cs,hx]
theorem push46{lo:Nat}{S:St}{tok:Nat}{es:List AV}(h:Ub 6 lo S tok es)(hn:2≤S.next)(hlo:lo≤S.next)(xs:List AV)(hx:xs.length=6)(hl:es.length≤2000000):
  ∃S',Ej E1 S 35 35 (.sl tok 0 6 es) (.sl 1 0 6 [.agg xs])=some (.sl S.next 0 6 (es ++ [.agg xs]),S')∧Ub 6 lo S' S.next (es ++ [.agg xs])∧S.next≤S'.next∧∀id,id<lo→S'.mem.get id=S.mem.get id:=by
 obtain⟨i,hi,hz0,hz1,hz2⟩:=G1 i54;have hb1:(es.length+1)*56≤140737488355328:=by omega
 have hb2:es.length+1≤9223372036854775807:=by omega
 rw[app46];rcases h with rfl | ⟨h1,h2,h3,h5⟩
 ·refine⟨S.grown 1 ((es ++ [AV.agg xs]).length*6),?_,.inr ⟨hn,hlo,Ja5 _,?_⟩,Jc9 _,fun id hid=>?_⟩
  ·simp[Ds,el46,hi,hz0,hz1,hz2,K9,un46,Value.cells,Le,hb1,hb2]
  ·show(S.mem.set S.next _).get S.next=_
   rw[T.get_set,if_pos rfl]
  ·show(S.mem.set S.next _).get id=_
   rw[T.get_set,if_neg (by omega)]
 ·obtain⟨k,rfl⟩:∃k,tok=k+2:=⟨tok - 2,by omega⟩
  refine⟨S.grown (k+2) ((es ++ [AV.agg xs]).length*6),?_,.inr ⟨hn,hlo,Ja5 _,?_⟩,Jc9 _,fun id hid=>?_⟩
  ·simp[Ds,el46,hi,hz0,hz1,hz2,K9,un46,Value.cells,Le,h5,hb1,hb2]
  ·show((S.mem.set (k+2) none).set S.next _).get S.next=_
   rw[T.get_set,if_pos rfl]
  ·show((S.mem.set (k+2) none).set S.next _).get id=_
   rw[T.get_set,if_neg (by omega),T.get_set,if_neg (by omega)]
def Sy:Code:=match Tryz.f215.body with
 |some (.seq _ (.seq _ (.seq (.block _ (.loop c)) _)))=>c
 |_=>.skip
def LoopRow156(p k:Nat)(ts:List Tk)(S0:St)(x:PR (List PD))(r:O):Prop :=
 (∃t' S' tok l i',r=.out (.exit 0) ⟨t',[]⟩ S'∧t'.get 0=some (.ptr p 0)∧t'.get 5=some (.sl tok 0 6 (l.map D7))∧C4 p S0 S'∧Cur S' p k ts i'∧i'<ts.length∧p<S'.next∧x=(B2 ts [[41]] i').bind fun _ j=>.ok l j) ∨
 (∃t' S' a e,r=.out (.pan (Xj a e)) ⟨t',[]⟩ S'∧C4 p S0 S'∧x=.bad a e)
section
variable {p k:Nat} {ts:List Tk} (hts:TokOk ts)
include hts
theorem Ww(h2p:2≤p)(m:Nat)(kid:Nat→PR PD)(hkn:∀i,kid i≠.out)(hF:∃fn,E1.F m=some fn)(hkid:wI p k ts m fA kid)(S0:St)(hp0:p<S0.next):∀(n:Nat) (l:List PD) (i:Nat) (t:T AV) (S:St) (tok:Nat),Ft ts kid n l i≠.out→n+l.length≤2000000 →
  t.get 0=some (.ptr p 0)→t.get 1=some (Mr m p)→t.get 5=some (.sl tok 0 6 (l.map D7))→Cur S p k ts i→p<S.next→i<ts.length→Ub 6 S0.next S tok (l.map D7)→C4 p S0 S →
  WX E1 32 (.loop Sy) ⟨t,[]⟩ S (LoopRow156 p k ts S0 (Ft ts kid n l i))
 |0,l,i,t,S,tok,ho,hnl,h0,h1,h5,h,hp,hi,hr,hx=>absurd rfl ho
 |n+1,l,i,t,S,tok,ho,hnl,h0,h1,h5,h,hp,hi,hr,hx=>by
  refine Bt (Bp ?_);obtain⟨fn1,hf1⟩:=fX 173;obtain⟨fn2,hf2⟩:=hF;unfold Mr at h1;have eP:Ft ts kid (n+1) l i=if(tk ts i).text∈[[44]]then(kid (i+1)).bind fun y j=>Ft ts kid n (l ++ [y]) j else(B2 ts [[41]] i).bind fun _ j=>.ok l j:=rfl
  rw[eP]at ho ⊢;clear eP
  by_cases hm:(tk ts i).text∈[[44]]
  ·rw[if_pos hm]at ho ⊢
   simp only[go_sem,reduceLT,reduceEqDiff,Tryz.f215,hf1,h0,Sy];refine WC.mono (J1 h hp hi hts 1 0 [[44]] (by decide) (by decide) hm) ?_
   rintro _ ⟨S1,rfl,x1,c1,hi1,hp1⟩;have y2:=(hx).trans x1;obtain⟨S3,q3,x3,c3,bt,hp3⟩:=Dq c1 hp1 (tk ts i);have y4:=(y2).trans x3;simp only[go_sem,A4,Bn,reduceLT,reduceEqDiff,Ar,hf2,h1,h5,q3];refine WC.mono (hkid _ _ c3 hp3 hi1) ?_
   cases hX5:kid (i+1)with
   |out=>exact absurd hX5 (hkn _)
   |bad a e =>
    rintro _ ⟨S5,rfl,x5⟩;simp only[Ib,Df,Bf];exact .inr ⟨_,_,_,_,rfl,y4.trans x5,rfl⟩
   |ok a5 j5 =>
    rw[hX5]at ho;rw[Bs]at ho ⊢;rintro _ ⟨_,S5,rfl,rfl,x5,c5,hi5⟩;have hp5:p<S5.next:=Ja0 hp3 x5.1;have y6:=(y4).trans x5;have hda:D7 a5=.agg (Fy a5):=rfl;have l7:=aT (Fy a5) rfl;have hr2:Ub 6 S0.next S5 tok (l.map D7):=hr.keep (((x1).trans x3).trans x5:C4 p S S5) hp0;have hle:=y6.1;obtain⟨S8,a8,r8,n8,k8⟩:=push46 hr2 (by omega) hle (Fy a5) rfl (by rw[Ja9];omega)
    have z8:C4 p S0 S8:=⟨Jb2 hle n8,fun id hid hn=>(k8 id hid).trans (y6.2 id hid hn)⟩
    have cc8:Cur S8 p k ts j5:=(k8 p hp0).trans c5;have em:l.map D7 ++ [AV.agg (Fy a5)]=(l ++ [a5]).map D7:=by rw[Jd4];rfl
    rw[em]at a8 r8;simp only[go_sem,Cq,Bn,reduceLT,reduceEqDiff,hda,l7,a8];exact Ww h2p m kid hkn ⟨_,hf2⟩ hkid S0 hp0 n _ _ _ _ _ ho (by rw[Ja3];simp;omega) (by simp[T.get_set,h0]) (by simp[T.get_set,h1,Mr]) (by simp[T.get_set]) cc8 (by omega) hi5 r8 z8
  ·rw[if_neg hm]at ho ⊢
   simp only[go_sem,reduceLT,reduceEqDiff,Tryz.f215,hf1,h0,Sy];refine WC.mono (K7 h hp hi hts 1 0 [[44]] (by decide) hm) ?_
   rintro _ ⟨S9,rfl,x9,c9,hi9,hp9⟩;have y10:=(hx).trans x9;obtain⟨S11,q11,x11,c11,bt,hp11⟩:=Dq c9 hp9 B5;have y12:=(y10).trans x11;simp only[go_sem,A4,Bn,reduceLT,reduceEqDiff,Au,hf2,h1,h5,q11];exact .inl ⟨_,_,tok,l,i,rfl,by simp[T.get_set,h0],by simp[T.get_set,h5],y12,c11,hi9,hp11,rfl⟩
theorem rest_p156(h2p:2≤p)(m:Nat)(kid:Nat→PR PD)(hkn:∀i,kid i≠.out)(hF:∃fn,E1.F m=some fn)(hkid:wI p k ts m fA kid)(n:Nat)(hn:n≤1000000)(S:St)(i:Nat)(h:Cur S p k ts i)(hp:p<S.next)(hi:i<ts.length)(ho:((kid i).bind fun x j=>Ft ts kid n [x] j)≠.out):WC E1 215 [.ptr p 0,Mr m p] S (Ot p k ts S (H8 6 D7) ((kid i).bind fun x j=>Ft ts kid n [x] j)):=by
 refine WCk Tryz.f215 ?_;obtain⟨fn2,hf2⟩:=hF;obtain⟨fn3,hf3⟩:=fX 169;simp only[go_sem,A4,Bn,reduceLT,Nat.reduceAdd,reduceEqDiff,Tryz.f215,hf2,Mr];refine WC.mono (hkid _ _ h hp hi) ?_
 cases hX1:kid i with
 |out=>exact absurd hX1 (hkn _)
 |bad a e =>
  rintro _ ⟨S1,rfl,x1⟩;simp only[A9,Bf,A7];exact⟨_,rfl,x1⟩
 |ok a1 j1 =>
  rw[hX1]at ho;rw[Bs]at ho ⊢;rintro _ ⟨_,S1,rfl,rfl,x1,c1,hi1⟩;have hp1:p<S1.next:=Ja0 hp x1.1;have y2:=x1;have hda:D7 a1=.agg (Fy a1):=rfl;have l3:=aT (Fy a1) rfl;simp only[go_sem,Iq,A4,Bn,reduceLT,reduceEqDiff,hda,l3];refine WX.mono (Ww hts h2p m kid hkn ⟨_,hf2⟩ hkid S hp n [a1] j1 _ _ 1 ho (by simp;omega) (by simp[T.get_set]) (by simp[T.get_set,Mr]) (by simp[T.get_set,hda]) c1 hp1 hi1 (.inl rfl) y2) ?_
  rintro _ (⟨t9,S9,tok9,l9,i9,rfl,g0,g5,x9,c9,hi9,hp9,e9⟩ | ⟨t9,S9,a9,e9,rfl,x9,q9⟩)
  ·rw[e9]
   simp only[go_sem,A4,reduceLT,reduceEqDiff,hf3,g0];refine WC.mono (Hq c9 hp9 hi9 hts 1 0 [[41]] (by decide) (by decide)) ?_
   cases hX4:B2 ts [[41]] i9 with
   |out=>exact absurd hX4 (Fa _ _ _)
   |bad a e =>
    rintro _ ⟨S4,rfl,x4⟩;simp only[A9,Bf,A7];exact⟨_,rfl,x9.trans x4⟩
   |ok a4 j4 =>
    rintro _ ⟨_,S4,rfl,rfl,x4,c4,hi4⟩;have hp4:p<S4.next:=Ja0 hp9 x4.1;have y5:=(x9).trans x4;simp only[go_sem,A4,Bn,reduceLT,reduceEqDiff,g5];exact⟨_,_,rfl,.inr ⟨_,_,rfl⟩,y5,c4,hi4⟩
  ·rw[q9]
   simp only[A9,Df,A7];exact⟨_,rfl,x9⟩
end
theorem i59:(Tryz.prog.info? 92).map (fun i=>(i.zero,i.size,i.bytes))=some (some (.agg #[.string ⟨#[]⟩,.int .i64 0]),2,24):=by kernel_rfl
theorem zF:Fs Tryz.prog 54=some (none,92):=by kernel_rfl
theorem un55:Tryz.prog.underlying 54=some (.slice 92):=by kernel_rfl
theorem app55(S:St)(a b:AV):Ej E1 S 54 54 a b=Ds Tryz.prog S 54 54 a b:=rfl
theorem zr59:Kb Tryz.prog 92=some (.agg zC59):=by kernel_rfl
theorem aS(xs:List AV)(hx:xs.length=2):Bd Tryz.prog 54 1 [(0,.agg xs)]=some (.sl 1 0 2 [.agg xs]):=by
 simp[Bd,zF,rE,zr59,Cr,Cs,hx]
theorem push55{lo:Nat}{S:St}{tok:Nat}{es:List AV}(h:Ub 2 lo S tok es)(hn:2≤S.next)(hlo:lo≤S.next)(xs:List AV)(hx:xs.length=2)(hl:es.length≤2000000):
  ∃S',Ej E1 S 54 54 (.sl tok 0 2 es) (.sl 1 0 2 [.agg xs])=some (.sl S.next 0 2 (es ++ [.agg xs]),S')∧Ub 2 lo S' S.next (es ++ [.agg xs])∧S.next≤S'.next∧∀id,id<lo→S'.mem.get id=S.mem.get id:=by
 obtain⟨i,hi,hz0,hz1,hz2⟩:=G1 i59;have hb1:(es.length+1)*24≤140737488355328:=by omega
 have hb2:es.length+1≤9223372036854775807:=by omega
 rw[app55];rcases h with rfl | ⟨h1,h2,h3,h5⟩
 ·refine⟨S.grown 1 ((es ++ [AV.agg xs]).length*2),?_,.inr ⟨hn,hlo,Ja5 _,?_⟩,Jc9 _,fun id hid=>?_⟩
  ·simp[Ds,zF,hi,hz0,hz1,hz2,K9,un55,Value.cells,Le,hb1,hb2]
  ·show(S.mem.set S.next _).get S.next=_
   rw[T.get_set,if_pos rfl]
  ·show(S.mem.set S.next _).get id=_
   rw[T.get_set,if_neg (by omega)]
 ·obtain⟨k,rfl⟩:∃k,tok=k+2:=⟨tok - 2,by omega⟩
  refine⟨S.grown (k+2) ((es ++ [AV.agg xs]).length*2),?_,.inr ⟨hn,hlo,Ja5 _,?_⟩,Jc9 _,fun id hid=>?_⟩
  ·simp[Ds,zF,hi,hz0,hz1,hz2,K9,un55,Value.cells,Le,h5,hb1,hb2]
  ·show((S.mem.set (k+2) none).set S.next _).get S.next=_
   rw[T.get_set,if_pos rfl]
  ·show((S.mem.set (k+2) none).set S.next _).get id=_
   rw[T.get_set,if_neg (by omega),T.get_set,if_neg (by omega)]
def Sx:Code:=match Tryz.f244.body with
 |some (.seq _ (.seq _ (.seq (.block _ (.loop c)) _)))=>c
 |_=>.skip
def LoopRow181(p k:Nat)(ts:List Tk)(S0:St)(x:PR (List (List UInt8 × Nat)))(r:O):Prop :=
 (∃t' S' tok l i',r=.out (.exit 0) ⟨t',[]⟩ S'∧t'.get 0=some (.ptr p 0)∧t'.get 5=some (.sl tok 0 2 (l.map Fg))∧C4 p S0 S'∧Cur S' p k ts i'∧i'<ts.length∧p<S'.next∧x=(B2 ts [[41]] i').bind fun _ j=>.ok l j) ∨
 (∃t' S' a e,r=.out (.pan (Xj a e)) ⟨t',[]⟩ S'∧C4 p S0 S'∧x=.bad a e)
section
variable {p k:Nat} {ts:List Tk} (hts:TokOk ts)
include hts
theorem Wv(h2p:2≤p)(m:Nat)(kid:Nat→PR (List UInt8 × Nat))(hkn:∀i,kid i≠.out)(hF:∃fn,E1.F m=some fn)(hkid:wI p k ts m yM kid)(S0:St)(hp0:p<S0.next):∀(n:Nat) (l:List (List UInt8 × Nat)) (i:Nat) (t:T AV) (S:St) (tok:Nat),Ft ts kid n l i≠.out→n+l.length≤2000000 →
  t.get 0=some (.ptr p 0)→t.get 1=some (Mr m p)→t.get 5=some (.sl tok 0 2 (l.map Fg))→Cur S p k ts i→p<S.next→i<ts.length→Ub 2 S0.next S tok (l.map Fg)→C4 p S0 S →
  WX E1 32 (.loop Sx) ⟨t,[]⟩ S (LoopRow181 p k ts S0 (Ft ts kid n l i))
 |0,l,i,t,S,tok,ho,hnl,h0,h1,h5,h,hp,hi,hr,hx=>absurd rfl ho
 |n+1,l,i,t,S,tok,ho,hnl,h0,h1,h5,h,hp,hi,hr,hx=>by
  refine Bt (Bp ?_);obtain⟨fn1,hf1⟩:=fX 173;obtain⟨fn2,hf2⟩:=hF;unfold Mr at h1;have eP:Ft ts kid (n+1) l i=if(tk ts i).text∈[[44]]then(kid (i+1)).bind fun y j=>Ft ts kid n (l ++ [y]) j else(B2 ts [[41]] i).bind fun _ j=>.ok l j:=rfl
  rw[eP]at ho ⊢;clear eP
  by_cases hm:(tk ts i).text∈[[44]]
  ·rw[if_pos hm]at ho ⊢
   simp only[go_sem,reduceLT,reduceEqDiff,Tryz.f244,hf1,h0,Sx];refine WC.mono (J1 h hp hi hts 1 0 [[44]] (by decide) (by decide) hm) ?_
   rintro _ ⟨S1,rfl,x1,c1,hi1,hp1⟩;have y2:=(hx).trans x1;obtain⟨S3,q3,x3,c3,bt,hp3⟩:=Dq c1 hp1 (tk ts i);have y4:=(y2).trans x3;simp only[go_sem,A4,Bn,reduceLT,reduceEqDiff,Ar,hf2,h1,h5,q3];refine WC.mono (hkid _ _ c3 hp3 hi1) ?_
   cases hX5:kid (i+1)with
   |out=>exact absurd hX5 (hkn _)
   |bad a e =>
    rintro _ ⟨S5,rfl,x5⟩;simp only[Ib,Df,Bf];exact .inr ⟨_,_,_,_,rfl,y4.trans x5,rfl⟩
   |ok a5 j5 =>
    rw[hX5]at ho;rw[Bs]at ho ⊢;rintro _ ⟨_,S5,rfl,rfl,x5,c5,hi5⟩;have hp5:p<S5.next:=Ja0 hp3 x5.1;have y6:=(y4).trans x5;have hda:Fg a5=.agg (Il a5):=rfl;have l7:=aS (Il a5) rfl;have hr2:Ub 2 S0.next S5 tok (l.map Fg):=hr.keep (((x1).trans x3).trans x5:C4 p S S5) hp0;have hle:=y6.1;obtain⟨S8,a8,r8,n8,k8⟩:=push55 hr2 (by omega) hle (Il a5) rfl (by rw[Ja9];omega)
    have z8:C4 p S0 S8:=⟨Jb2 hle n8,fun id hid hn=>(k8 id hid).trans (y6.2 id hid hn)⟩
    have cc8:Cur S8 p k ts j5:=(k8 p hp0).trans c5;have em:l.map Fg ++ [AV.agg (Il a5)]=(l ++ [a5]).map Fg:=by rw[Jd4];rfl
    rw[em]at a8 r8;simp only[go_sem,Cq,Bn,reduceLT,reduceEqDiff,hda,l7,a8];exact Wv h2p m kid hkn ⟨_,hf2⟩ hkid S0 hp0 n _ _ _ _ _ ho (by rw[Ja3];simp;omega) (by simp[T.get_set,h0]) (by simp[T.get_set,h1,Mr]) (by simp[T.get_set]) cc8 (by omega) hi5 r8 z8
  ·rw[if_neg hm]at ho ⊢
   simp only[go_sem,reduceLT,reduceEqDiff,Tryz.f244,hf1,h0,Sx];refine WC.mono (K7 h hp hi hts 1 0 [[44]] (by decide) hm) ?_
   rintro _ ⟨S9,rfl,x9,c9,hi9,hp9⟩;have y10:=(hx).trans x9;obtain⟨S11,q11,x11,c11,bt,hp11⟩:=Dq c9 hp9 B5;have y12:=(y10).trans x11;simp only[go_sem,A4,Bn,reduceLT,reduceEqDiff,Au,hf2,h1,h5,q11];exact .inl ⟨_,_,tok,l,i,rfl,by simp[T.get_set,h0],by simp[T.get_set,h5],y12,c11,hi9,hp11,rfl⟩
theorem rest_p181(h2p:2≤p)(m:Nat)(kid:Nat→PR (List UInt8 × Nat))(hkn:∀i,kid i≠.out)(hF:∃fn,E1.F m=some fn)(hkid:wI p k ts m yM kid)(n:Nat)(hn:n≤1000000)(S:St)(i:Nat)(h:Cur S p k ts i)(hp:p<S.next)(hi:i<ts.length)(ho:((kid i).bind fun x j=>Ft ts kid n [x] j)≠.out):WC E1 244 [.ptr p 0,Mr m p] S (Ot p k ts S (H8 2 Fg) ((kid i).bind fun x j=>Ft ts kid n [x] j)):=by
 refine WCk Tryz.f244 ?_;obtain⟨fn2,hf2⟩:=hF;obtain⟨fn3,hf3⟩:=fX 169;simp only[go_sem,A4,Bn,reduceLT,Nat.reduceAdd,reduceEqDiff,Tryz.f244,hf2,Mr];refine WC.mono (hkid _ _ h hp hi) ?_
 cases hX1:kid i with
 |out=>exact absurd hX1 (hkn _)
 |bad a e =>
  rintro _ ⟨S1,rfl,x1⟩;simp only[A9,Bf,A7];exact⟨_,rfl,x1⟩
 |ok a1 j1 =>
  rw[hX1]at ho;rw[Bs]at ho ⊢;rintro _ ⟨_,S1,rfl,rfl,x1,c1,hi1⟩;have hp1:p<S1.next:=Ja0 hp x1.1;have y2:=x1;have hda:Fg a1=.agg (Il a1):=rfl;have l3:=aS (Il a1) rfl;simp only[go_sem,Iq,A4,Bn,reduceLT,reduceEqDiff,hda,l3];refine WX.mono (Wv hts h2p m kid hkn ⟨_,hf2⟩ hkid S hp n [a1] j1 _ _ 1 ho (by simp;omega) (by simp[T.get_set]) (by simp[T.get_set,Mr]) (by simp[T.get_set,hda]) c1 hp1 hi1 (.inl rfl) y2) ?_
  rintro _ (⟨t9,S9,tok9,l9,i9,rfl,g0,g5,x9,c9,hi9,hp9,e9⟩ | ⟨t9,S9,a9,e9,rfl,x9,q9⟩)
  ·rw[e9]
   simp only[go_sem,A4,reduceLT,reduceEqDiff,hf3,g0];refine WC.mono (Hq c9 hp9 hi9 hts 1 0 [[41]] (by decide) (by decide)) ?_
   cases hX4:B2 ts [[41]] i9 with
   |out=>exact absurd hX4 (Fa _ _ _)
   |bad a e =>
    rintro _ ⟨S4,rfl,x4⟩;simp only[A9,Bf,A7];exact⟨_,rfl,x9.trans x4⟩
   |ok a4 j4 =>
    rintro _ ⟨_,S4,rfl,rfl,x4,c4,hi4⟩;have hp4:p<S4.next:=Ja0 hp9 x4.1;have y5:=(x9).trans x4;simp only[go_sem,A4,Bn,reduceLT,reduceEqDiff,g5];exact⟨_,_,rfl,.inr ⟨_,_,rfl⟩,y5,c4,hi4⟩
  ·rw[q9]
   simp only[A9,Df,A7];exact⟨_,rfl,x9⟩
end
section
end
end
section
attribute [local go_sem] Bool.false_eq_true List.append_nil List.getElem?_cons_succ List.getElem?_cons_zero List.nil_append Option.getD_some T.get_leaf T.get_set B1 Bn Dc Dr Bz Dl Dz Db Ct Ew Fi Ff A6 Bg Bv B3 By D6 Bm Us fp0 Cm if_false if_true Cx C9 Em Bo ofOpt ofOptS C8 Cc Bu Ba Cd Hl Er A4 F8 true_and D8 Bc
def Ix(ts:List Tk):Nat→List PD→Nat→PR (List PD)
 |0,_,_=>.out
 |n+1,l,i=>if(tk ts i).kind=1 then(D5 ts i).bind fun d j=>Ix ts n (l ++ [d]) j else .ok l i
def H3(ts:List Tk)(n i:Nat):PR (List (List UInt8 × Nat)):=if(tk ts i).kind=1 then(Hb ts i).bind fun x j=>.ok [x] j else(B2 ts [[40]] i).bind fun _ j=>(Hb ts j).bind fun x j=>(B2 ts [[44]] j).bind fun _ j=>((Hb ts j).bind fun y m=>Ft ts (Hb ts) n [y] m).bind fun l m=>.ok (x :: l) m
theorem jT{α:Type}(ts:List Tk)(kid:Nat→PR α):∀(n:Nat) (l:List α) (i:Nat) (r:List α) (j:Nat),Ft ts kid n l i=.ok r j→r.length≤l.length+n
 |0,l,i,r,j,h=>by cases h
 |n+1,l,i,r,j,h=>by
  unfold Ft at h
  split at h
  ·cases hk:kid (i+1)with
   |out=>rw[hk]at h;cases h
   |bad a e=>rw[hk]at h;cases h
   |ok a m =>
    rw[hk,Bs]at h;have:=jT ts kid n _ _ _ _ h;rw[Ja3]at this;simp at this;omega
  ·cases hk:B2 ts [[41]] i with
   |out=>rw[hk]at h;cases h
   |bad a e=>rw[hk]at h;cases h
   |ok a m =>
    rw[hk,Bs]at h;cases h;omega
theorem app55r{p k i:Nat}{S:St}{ts:List Tk}(h:Cur S p k ts i)(hp:p<S.next)(x:List UInt8 × Nat){v:AV}{l:List (List UInt8 × Nat)}(hv:H8 2 Fg v l)(hl:l.length≤2000000):
  ∃S' w,Ej E1 S 54 54 (.sl 1 0 2 [Fg x]) v=some (w,S')∧H8 2 Fg w (x :: l)∧C4 p S S'∧Cur S' p k ts i:=by
 obtain⟨i',hi,hz0,hz1,hz2⟩:=G1 i59;rw[app55];have same:∀(w:AV),w=.sl 1 0 2 [Fg x]→H8 2 Fg w [x]:=fun w e=>.inr ⟨1,0,e⟩
 rcases hv with⟨rfl,rfl⟩ | ⟨tok,off,rfl⟩
 ·refine⟨S,.sl 1 0 2 [Fg x],?_,same _ rfl,⟨Ja1 _,fun _ _ _=>rfl⟩,h⟩
  simp[Ds,zF,hi,hz0,hz1,K9,un55,Value.cells]
 ·cases l with
  |nil =>
   refine⟨S,.sl 1 0 2 [Fg x],?_,same _ rfl,⟨Ja1 _,fun _ _ _=>rfl⟩,h⟩
   simp[Ds,zF,hi,hz0,hz1,K9,un55,Value.cells]
  |cons y r =>
   have hb1:(1+(r.length+1))*24≤140737488355328:=by simp at hl;omega
   have hb2:1+(r.length+1)≤9223372036854775807:=by omega
   refine⟨S.grown 1 ((Fg x :: Fg y :: r.map Fg).length*2),.sl S.next 0 2 ((x :: y :: r).map Fg),?_,.inr ⟨_,_,rfl⟩,⟨Jc9 _,fun id hid _=>?_⟩,?_⟩
   ·simp[Ds,zF,hi,hz0,hz1,hz2,K9,un55,Value.cells,Le,hb1,hb2]
   ·show(S.mem.set S.next _).get id=_
    rw[T.get_set,if_neg (by omega)]
   ·show(S.mem.set S.next _).get p=_
    rw[T.get_set,if_neg (by omega)];exact h
section
variable {p k:Nat} {ts:List Tk} (hts:TokOk ts)
include hts
theorem Zz(h2p:2≤p)(m:Nat)(kid:Nat→PR PD)(hkn:∀i,kid i≠.out)(hF:∃fn,E1.F m=some fn)(hkid:wI p k ts m fA kid)(n:Nat)(hn:n≤1000000)(S:St)(i:Nat)(h:Cur S p k ts i)(hp:p<S.next)(hi:i<ts.length)(ho:Hz ts kid n i≠.out):WC E1 171 [.ptr p 0,Mr m p] S (Ot p k ts S (H8 6 D7) (Hz ts kid n i)):=by
 have eP:Hz ts kid n i=(B2 ts [[40]] i).bind fun _ j=>if(tk ts j).text∈[[41]]then .ok [] (j+1)else(kid j).bind fun x m=>Ft ts kid n [x] m:=rfl
 rw[eP]at ho ⊢;clear eP;refine WCk Tryz.f171 ?_;obtain⟨fn1,hf1⟩:=fX 173;obtain⟨fn2,hf2⟩:=fX 169;obtain⟨fn3,hf3⟩:=fX 215;simp only[go_sem,reduceLT,Nat.reduceAdd,reduceEqDiff,Tryz.f171,hf2];refine WC.mono (Hq h hp hi hts 1 0 [[40]] (by decide) (by decide)) ?_
 cases hX1:B2 ts [[40]] i with
 |out=>exact absurd hX1 (Fa _ _ _)
 |bad a e =>
  rintro _ ⟨S1,rfl,x1⟩;simp only[A9,Bf,A7];exact⟨_,rfl,x1⟩
 |ok a1 j1 =>
  rw[hX1]at ho;rw[Bs]at ho ⊢;rintro _ ⟨_,S1,rfl,rfl,x1,c1,hi1⟩;have hp1:p<S1.next:=Ja0 hp x1.1;have y2:=x1
  by_cases hm:(tk ts j1).text∈[[41]]
  ·rw[if_pos hm]at ho ⊢
   simp only[go_sem,reduceLT,reduceEqDiff,hf1];refine WC.mono (J1 c1 hp1 hi1 hts 1 0 [[41]] (by decide) (by decide) hm) ?_
   rintro _ ⟨S3,rfl,x3,c3,hi3,hp3⟩;have y4:=(y2).trans x3;obtain⟨S5,q5,x5,c5,bt,hp5⟩:=Dq c3 hp3 (tk ts j1);have y6:=(y4).trans x5;simp only[go_sem,reduceLT,reduceEqDiff,Ty,D3,hf3,q5];exact⟨_,_,rfl,.inl ⟨rfl,rfl⟩,y6,c5,hi3⟩
  ·rw[if_neg hm]at ho ⊢
   simp only[go_sem,reduceLT,reduceEqDiff,hf1];refine WC.mono (K7 c1 hp1 hi1 hts 1 0 [[41]] (by decide) hm) ?_
   rintro _ ⟨S7,rfl,x7,c7,hi7,hp7⟩;have y8:=(y2).trans x7;obtain⟨S9,q9,x9,c9,bt,hp9⟩:=Dq c7 hp7 B5;have y10:=(y8).trans x9;simp only[go_sem,reduceLT,reduceEqDiff,Ty,D3,hf3,q9];refine WC.mono (rest_p156 hts h2p m kid hkn hF hkid n hn _ _ c9 hp9 hi7 ho) ?_
   cases hX11:(kid j1).bind fun x m=>Ft ts kid n [x] m with
   |out=>exact absurd hX11 ho
   |bad a e =>
    rintro _ ⟨S11,rfl,x11⟩;simp only[A9,Bf,A7];exact⟨_,rfl,y10.trans x11⟩
   |ok a j =>
    rintro _ ⟨v,S11,rfl,hv,x11,c11,hi11⟩;simp only[go_sem,reduceLT,reduceEqDiff];exact⟨_,_,rfl,hv,y10.trans x11,c11,hi11⟩
theorem lefts_p(h2p:2≤p)(n:Nat)(hn:n≤1000000)(S:St)(i:Nat)(h:Cur S p k ts i)(hp:p<S.next)(hi:i<ts.length)(ho:H3 ts n i≠.out):WC E1 217 [.ptr p 0] S (Ot p k ts S (H8 2 Fg) (H3 ts n i)):=by
 have eP:H3 ts n i=if(tk ts i).kind=1 then(Hb ts i).bind fun x j=>.ok [x] j else(B2 ts [[40]] i).bind fun _ j=>(Hb ts j).bind fun x j=>(B2 ts [[44]] j).bind fun _ j=>((Hb ts j).bind fun y m=>Ft ts (Hb ts) n [y] m).bind fun l m=>.ok (x :: l) m:=rfl
 rw[eP]at ho ⊢;clear eP;refine WCk Tryz.f217 ?_;obtain⟨fn1,hf1⟩:=fX 167;obtain⟨fn2,hf2⟩:=fX 243;obtain⟨fn3,hf3⟩:=fX 169;obtain⟨fn4,hf4⟩:=fX 244;simp only[go_sem,reduceLT,reduceEqDiff,Tryz.f217,hf1];refine WC.mono (W4 _ p k ts i h hp hi) ?_;rintro _ ⟨S1,rfl,k1⟩;have x1:=k1.x p;have c1:=h.keep hp k1;have hp1:p<S1.next:=Ja0 hp x1.1;have y2:=x1;have e0:=Gy hi
 by_cases h1:(tk ts i).kind=1
 ·rw[if_pos h1]at ho ⊢
  have n1:(((ts[i].kind:Nat):Int) == 1)=true:=by rw[← e0,h1];rfl
  simp only[go_sem,reduceLT,reduceEqDiff,hf2,hf3,Bk,n1];refine WC.mono (yG hts _ _ c1 hp1 hi) ?_
  cases hX3:Hb ts i with
  |out=>exact absurd hX3 (eS _ _)
  |bad a e =>
   rintro _ ⟨S3,rfl,x3⟩;simp only[A9,Bf,A7];exact⟨_,rfl,y2.trans x3⟩
  |ok a3 j3 =>
   rintro _ ⟨_,S3,rfl,rfl,x3,c3,hi3⟩;have hp3:p<S3.next:=Ja0 hp1 x3.1;have y4:=(y2).trans x3;rw[Bs];have hda:Fg a3=.agg (Il a3):=rfl;have l5:=aS (Il a3) rfl;simp only[go_sem,reduceLT,reduceEqDiff,hda,l5];exact⟨_,_,rfl,.inr ⟨_,_,rfl⟩,y4,c3,hi3⟩
 ·rw[if_neg h1]at ho ⊢
  have n1:(((ts[i].kind:Nat):Int) == 1)=false:=by rw[← e0,beq_eq_false_iff_ne];omega
  simp only[go_sem,reduceLT,reduceEqDiff,hf2,hf3,Bk,n1];refine WC.mono (Hq c1 hp1 hi hts 1 0 [[40]] (by decide) (by decide)) ?_
  cases hX6:B2 ts [[40]] i with
  |out=>exact absurd hX6 (Fa _ _ _)
  |bad a e =>
   rintro _ ⟨S6,rfl,x6⟩;simp only[A9,Bf,A7];exact⟨_,rfl,y2.trans x6⟩
  |ok a6 j6 =>
   rw[hX6]at ho;rw[Bs]at ho ⊢;rintro _ ⟨_,S6,rfl,rfl,x6,c6,hi6⟩;have hp6:p<S6.next:=Ja0 hp1 x6.1;have y7:=(y2).trans x6;simp only[go_sem,reduceLT,reduceEqDiff,hf2];refine WC.mono (yG hts _ _ c6 hp6 hi6) ?_
   cases hX8:Hb ts j6 with
   |out=>exact absurd hX8 (eS _ _)
   |bad a e =>
    rintro _ ⟨S8,rfl,x8⟩;simp only[A9,Bf,A7];exact⟨_,rfl,y7.trans x8⟩
   |ok a8 j8 =>
    rw[hX8]at ho;rw[Bs]at ho ⊢;rintro _ ⟨_,S8,rfl,rfl,x8,c8,hi8⟩;have hp8:p<S8.next:=Ja0 hp6 x8.1;have y9:=(y7).trans x8;have hda:Fg a8=.agg (Il a8):=rfl;obtain⟨S10,q10,x10,c10,bf,hp10⟩:=boxG2 rE zC59 rfl c8 hp8 (xs:=Il a8) rfl;have y11:=(y9).trans x10;simp only[go_sem,reduceLT,reduceEqDiff,hf3,alo59,hda,q10];refine WC.mono (Hq c10 hp10 hi8 hts 1 0 [[44]] (by decide) (by decide)) ?_
    cases hX12:B2 ts [[44]] j8 with
    |out=>exact absurd hX12 (Fa _ _ _)
    |bad a e =>
     rintro _ ⟨S12,rfl,x12⟩;simp only[A9,Bf,A7];exact⟨_,rfl,y11.trans x12⟩
    |ok a12 j12 =>
     rw[hX12]at ho;rw[Bs]at ho ⊢;rintro _ ⟨_,S12,rfl,rfl,x12,c12,hi12⟩;have hp12:p<S12.next:=Ja0 hp10 x12.1;have y13:=(y11).trans x12;have bf_13:=bf.keep x12;have l14:=ldG ag59 rE bf_13.get rfl;have l15:=aS (Il a8) rfl;simp only[Eh,Dz,A4,Bn,Bu,Cd,reduceLT,Ac];refine Dd [(0,true),(1,true),(2,true),(3,true),(4,true),(5,true),(0,false),(6,true),(7,true)] (by kernel_rfl) (by kernel_rfl) ?_
     simp only[go_sem,reduceLT,reduceEqDiff,Af,Ir,I1,Km,Hw,Mp,hf4,l14,l15];have hb2:=Ep ho;refine WC.mono (rest_p181 hts h2p 243 _ (eS ts) (fX 243) (yG hts) n hn _ _ c12 hp12 hi12 hb2) ?_
     cases hX:(Hb ts j12).bind fun y m=>Ft ts (Hb ts) n [y] m with
     |out=>exact absurd hX hb2
     |bad a e =>
      rintro _ ⟨S99,rfl,x99⟩;simp only[A9,A7,Ht,I5];exact⟨_,rfl,y13.trans x99⟩
     |ok l j =>
      rw[Bs];rintro _ ⟨v,S99,rfl,hv,x99,c99,hi99⟩;have hp99:p<S99.next:=Ja0 hp12 x99.1;have y17:=(y13).trans x99;have bf_17:=bf_13.keep x99
      have hlen:l.length≤2000000:=by
       cases hk:Hb ts j12 with
       |out=>rw[hk]at hX;cases hX
       |bad a e=>rw[hk]at hX;cases hX
       |ok a m=>rw[hk,Bs]at hX;have:=jT _ _ _ _ _ _ _ hX;simp at this;omega
      obtain⟨S98,w98,ha98,hw98,x98,c98⟩:=app55r c99 hp99 a8 hv hlen;rw[hda]at ha98;have l18:=ldG ag59 rE bf_17.get rfl;have bq:D1 (.sl 1 0 2 [.agg (Il a8)]) (.sl 1 0 2 [.agg (Il a8)])=true:=by simp[D1,Gm,Il,A2,Bk,eqS,Jx]
      have bq2:D1 (.agg (Il a8)) (.agg (Il a8))=true:=by simp[D1,Gm,Il,A2,Bk,eqS,Jx]
      simp only[go_sem,reduceLT,reduceEqDiff,Jy,Ir,gX,I1,Hw,M8,H9,Ez,Fq,l18,bq2,ha98];exact⟨_,_,rfl,hw98,y17.trans x98,c98,hi99⟩
omit hts
def qO:Code:=match Tryz.f174.body with
 |some (.seq _ (.seq _ (.seq (.block _ (.loop c)) _)))=>c
 |_=>.skip
def LoopVars(p k:Nat)(ts:List Tk)(S0:St)(x:PR (List PD))(r:O):Prop :=
 (∃t' S' tok l i',r=.out (.exit 0) ⟨t',[]⟩ S'∧t'.get 3=some (.sl tok 0 6 (l.map D7))∧C4 p S0 S'∧Cur S' p k ts i'∧i'<ts.length∧p<S'.next∧x=.ok l i') ∨
 (∃t' S' a e,r=.out (.pan (Xj a e)) ⟨t',[]⟩ S'∧C4 p S0 S'∧x=.bad a e)
include hts
theorem iW(h2p:2≤p)(S0:St)(hp0:p<S0.next):∀(n:Nat) (l:List PD) (i:Nat) (t:T AV) (S:St) (tok:Nat),Ix ts n l i≠.out→n+l.length≤2000000 →
  t.get 0=some (.ptr p 0)→t.get 3=some (.sl tok 0 6 (l.map D7))→Cur S p k ts i→p<S.next→i<ts.length→Ub 6 S0.next S tok (l.map D7)→C4 p S0 S →
  WX E1 19 (.loop qO) ⟨t,[]⟩ S (LoopVars p k ts S0 (Ix ts n l i))
 |0,l,i,t,S,tok,ho,hnl,h0,h3,h,hp,hi,hr,hx=>absurd rfl ho
 |n+1,l,i,t,S,tok,ho,hnl,h0,h3,h,hp,hi,hr,hx=>by
  refine Bt (Bp ?_);obtain⟨fn1,hf1⟩:=fX 167;obtain⟨fn2,hf2⟩:=fX 216;have eP:Ix ts (n+1) l i=if(tk ts i).kind=1 then(D5 ts i).bind fun d j=>Ix ts n (l ++ [d]) j else .ok l i:=rfl
  rw[eP]at ho ⊢;clear eP;have e0:=Gy hi;simp only[go_sem,reduceLT,reduceEqDiff,Tryz.f174,hf1,h0,qO];refine WC.mono (W4 _ p k ts i h hp hi) ?_;rintro _ ⟨S1,rfl,k1⟩;have x1:=k1.x p;have c1:=h.keep hp k1;have hp1:p<S1.next:=Ja0 hp x1.1;have y2:=(hx).trans x1
  by_cases h1:(tk ts i).kind=1
  ·rw[if_pos h1]at ho ⊢
   have n1:(((ts[i].kind:Nat):Int) == 1)=true:=by rw[← e0,h1];rfl
   simp only[go_sem,De,Hj,reduceLT,reduceEqDiff,hf2,h0,h3,Bk,n1];refine WC.mono (lY hts _ _ c1 hp1 hi) ?_
   cases hX3:D5 ts i with
   |out=>exact absurd hX3 (aB _ _)
   |bad a e =>
    rintro _ ⟨S3,rfl,x3⟩;simp only[Ib,Df,Bf];exact .inr ⟨_,_,_,_,rfl,y2.trans x3,rfl⟩
   |ok a3 j3 =>
    rw[hX3]at ho;rw[Bs]at ho ⊢;rintro _ ⟨_,S3,rfl,rfl,x3,c3,hi3⟩;have hp3:p<S3.next:=Ja0 hp1 x3.1;have y4:=(y2).trans x3;have hda:D7 a3=.agg (Fy a3):=rfl;have l5:=aT (Fy a3) rfl;have hr2:Ub 6 S0.next S3 tok (l.map D7):=hr.keep ((x1).trans x3:C4 p S S3) hp0;have hle:=y4.1;obtain⟨S6,a6,r6,n6,k6⟩:=push46 hr2 (by omega) hle (Fy a3) rfl (by rw[Ja9];omega)
    have z6:C4 p S0 S6:=⟨Jb2 hle n6,fun id hid hn=>(k6 id hid).trans (y4.2 id hid hn)⟩
    have cc6:Cur S6 p k ts j3:=(k6 p hp0).trans c3;have em:l.map D7 ++ [AV.agg (Fy a3)]=(l ++ [a3]).map D7:=by rw[Jd4];rfl
    rw[em]at a6 r6;simp only[go_sem,C7,Cq,reduceLT,reduceEqDiff,hda,l5,a6];exact iW h2p S0 hp0 n _ _ _ _ _ ho (by rw[Ja3];simp;omega) (by simp[T.get_set,h0]) (by simp[T.get_set]) cc6 (by omega) hi3 r6 z6
  ·rw[if_neg h1]at ho ⊢
   have n1:(((ts[i].kind:Nat):Int) == 1)=false:=by rw[← e0,beq_eq_false_iff_ne];omega
   simp only[go_sem,De,Hj,reduceLT,reduceEqDiff,hf2,h0,h3,Bk,n1];exact .inl ⟨_,_,tok,l,i,rfl,by simp[T.get_set,h3],y2,c1,hi,hp1,rfl⟩
theorem vars_p(h2p:2≤p)(n:Nat)(hn:n≤1000000)(S:St)(i:Nat)(h:Cur S p k ts i)(hp:p<S.next)(hi:i<ts.length)(ho:((D5 ts i).bind fun x j=>Ix ts n [x] j)≠.out):WC E1 174 [.ptr p 0] S (Ot p k ts S (H8 6 D7) ((D5 ts i).bind fun x j=>Ix ts n [x] j)):=by
 refine WCk Tryz.f174 ?_;obtain⟨fn2,hf2⟩:=fX 216;simp only[go_sem,reduceLT,reduceEqDiff,Tryz.f174,hf2];refine WC.mono (lY hts _ _ h hp hi) ?_
 cases hX1:D5 ts i with
 |out=>exact absurd hX1 (aB _ _)
 |bad a e =>
  rintro _ ⟨S1,rfl,x1⟩;simp only[A9,Bf,A7];exact⟨_,rfl,x1⟩
 |ok a1 j1 =>
  rw[hX1]at ho;rw[Bs]at ho ⊢;rintro _ ⟨_,S1,rfl,rfl,x1,c1,hi1⟩;have hp1:p<S1.next:=Ja0 hp x1.1;have y2:=x1;have hda:D7 a1=.agg (Fy a1):=rfl;have l3:=aT (Fy a1) rfl;simp only[go_sem,Iq,reduceLT,reduceEqDiff,hda,l3];refine WX.mono (iW hts h2p S hp n [a1] j1 _ _ 1 ho (by simp;omega) (by simp[T.get_set]) (by simp[T.get_set,hda]) c1 hp1 hi1 (.inl rfl) y2) ?_
  rintro _ (⟨t9,S9,tok9,l9,i9,rfl,g3,x9,c9,hi9,hp9,e9⟩ | ⟨t9,S9,a9,e9,rfl,x9,q9⟩)
  ·rw[e9]
   simp only[go_sem,Ea,reduceLT,reduceEqDiff,g3];exact⟨_,_,rfl,.inr ⟨_,_,rfl⟩,x9,c9,hi9⟩
  ·rw[q9]
   simp only[A9,Df,A7];exact⟨_,rfl,x9⟩
end
end
end Go.Ax
