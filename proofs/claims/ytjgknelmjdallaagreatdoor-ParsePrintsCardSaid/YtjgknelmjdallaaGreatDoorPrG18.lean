/- Ph -/
import Derived.Test.YtjgknelmjdallaaGreatDoorPrPg
set_option linter.unusedVariables false
set_option linter.unusedSimpArgs false
noncomputable section
namespace Go.Ax
open Go.RowKit Go.Proofs
set_option maxRecDepth 100000
theorem fnOk125:∃ fn,E1.F 125=some fn:=Option.isSome_iff_exists.1 (by kernel_rfl)
theorem lQ:∃ fn,E1.F 126=some fn:=Option.isSome_iff_exists.1 (by kernel_rfl)
theorem fnOk127:∃ fn,E1.F 127=some fn:=Option.isSome_iff_exists.1 (by kernel_rfl)
theorem fnOk156:∃ fn,E1.F 156=some fn:=Option.isSome_iff_exists.1 (by kernel_rfl)
theorem yK:∃ fn,E1.F 157=some fn:=Option.isSome_iff_exists.1 (by kernel_rfl)
theorem yJ:∃ fn,E1.F 158=some fn:=Option.isSome_iff_exists.1 (by kernel_rfl)
theorem yE:∃ fn,E1.F 180=some fn:=Option.isSome_iff_exists.1 (by kernel_rfl)
theorem yD:∃ fn,E1.F 181=some fn:=Option.isSome_iff_exists.1 (by kernel_rfl)
theorem A6 {E:Env} {n:Nat} {f:Fr} {S:St} {Q:O → Prop} {b:Code}:kF E n b Q (.out .normal f S)=W E n b f S Q:=id rfl
theorem Bl {E:Env} {n:Nat} {f:Fr} {S:St} {Q:O → Prop} {ops:Array Oper}:WL E n ops [] f S Q=Q (.out .normal f S):=id rfl
theorem Fw {E:Env} {n:Nat} {f:Fr} {S:St} {Q:O → Prop} {ops:Array Oper}:WR E n ops [] f S Q=Q (.out .normal f S):=id rfl
section
variable {S:St} {p k i T n:Nat} {ts:List Tk}
theorem stG (hs:Fq Tryz.prog T=some n) {id:Nat} {cs ys:List AV} (h:S.mem.get id=some (.box cs)) (hl:cs.length=n) (hy:ys.length=n):C9 Tryz.prog S T (.ptr id 0) (.agg ys)=some (S.put id ys):=by
 have h2:(AV.agg ys).noTup=true:=rfl
 simp [C9,h,hs,h2,AV.cells,hl,hy,St.put,List.drop_eq_nil_of_le]
theorem ldG (ha:Fs Tryz.prog T=some true) (hs:Fq Tryz.prog T=some n) {id:Nat} {cs:List AV} (h:S.mem.get id=some (.box cs)) (hl:cs.length=n):Cv Tryz.prog S T (.ptr id 0)=some (.agg cs):=by
 have e:cs.take n=cs:=List.take_of_length_le (by omega)
 simp [Cv,Dc,h,ha,hs,hl,e]
theorem oS (Z:List AV) (h:Cur S p k ts i) (hp:p < S.next):Eb p S (S.newBox Z) ∧ Cur (S.newBox Z) p k ts i ∧ Has p (S.newBox Z) S.next Z ∧ p < (S.newBox Z).next :=
 ⟨I7 S Z,h.new hp Z,⟨Do S _,Nat.lt_succ_self _,by omega⟩,Nat.lt_succ_of_lt hp⟩
theorem zD (hs:Fq Tryz.prog T=some n) (Z:List AV) (hz:Z.length=n) (h:Cur S p k ts i) (hp:p < S.next) {xs:List AV} (hx:xs.length=n):∃ S',C9 Tryz.prog (S.newBox Z) T (.ptr S.next 0) (.agg xs)=some S' ∧ Eb p S S' ∧ Cur S' p k ts i ∧ Has p S' S.next xs ∧ p < S'.next :=
 ⟨_,stG hs (Do S _) hz hx,Hz (I7 S _) (Nat.le_refl _) _,(h.new hp _).put (by omega) _,⟨Et _ _ _,Nat.lt_succ_self _,by omega⟩,Nat.lt_succ_of_lt hp⟩
theorem V3 (ha:Fs Tryz.prog T=some true) (hs:Fq Tryz.prog T=some n) {S0:St} {b:Nat} {cs:List AV} (h:Cur S p k ts i) (hb:Has p S b cs) (hl:cs.length=n) (hle:S0.next ≤ b) (x:Eb p S0 S) {xs:List AV} (hx:xs.length=n) :
  C9 Tryz.prog S T (.ptr b 0) (.agg xs)=some (S.put b xs) ∧ Cv Tryz.prog (S.put b xs) T (.ptr b 0)=some (.agg xs) ∧ Eb p S0 (S.put b xs) ∧ Cur (S.put b xs) p k ts i :=
 ⟨stG hs hb.get hl hx,ldG ha hs (Et _ _ _) hx,Hz x hle _,h.put (fun e=>hb.ne e.symm) _⟩
end
theorem vM:Fs Tryz.prog 54=some true:=by kernel_rfl
theorem Z8:Fq Tryz.prog 54=some 6:=by kernel_rfl
def dX:List AV:=[Cj [],Du 0,.v (.bool false),.v (.bool false),Cj [],.v (.bool false)]
theorem qY (S:St):Jv Tryz.prog S 54=some (.ptr S.next 0,S.newBox dX):=by kernel_rfl
theorem ag59:Fs Tryz.prog 59=some true:=by kernel_rfl
theorem nB:Fq Tryz.prog 59=some 2:=by kernel_rfl
def mN:List AV:=[Cj [],Du 0]
theorem alo59 (S:St):Jv Tryz.prog S 59=some (.ptr S.next 0,S.newBox mN):=by kernel_rfl
structure PD where
 name:List UInt8
 pos:Nat
 bool:Bool
 fut:Bool
 clock:List UInt8
 off:Bool
def Ge (d:PD):List AV:=[Cj d.name,Du d.pos,.v (.bool d.bool),.v (.bool d.fut),Cj d.clock,.v (.bool d.off)]
def Gt (d:PD):AV:=.agg (Ge d)
def cF (v:AV) (d:PD):Prop:=v=Gt d
def Ho (d:List UInt8 × Nat):List AV:=[Cj d.1,Du d.2]
def Gd (d:List UInt8 × Nat):AV:=.agg (Ho d)
def tW (v:AV) (d:List UInt8 × Nat):Prop:=v=Gd d
def He (ts:List Tk) (i:Nat):PR PD:=(Fk ts 1 i).bind fun t j=>(C7 ts [[58]] j).bind fun _ j=>if (tk ts j).text ∈ [[102,117,116,117,114,101]] then (C7 ts [[105,110,116],[98,111,111,108]] (j + 1)).bind fun u m=>.ok ⟨t.text,t.pos,decide (u.text=[98,111,111,108]),true,[],false⟩ m else (C7 ts [[105,110,116],[98,111,111,108]] j).bind fun u m=>.ok ⟨t.text,t.pos,decide (u.text=[98,111,111,108]),false,[],false⟩ m
def Fi (ts:List Tk) (i:Nat):PR PD:=(He ts i).bind fun d j=>if (tk ts j).text ∈ [[119,104,101,110]] then (Hc ts (j + 1)).bind fun c j=>(C7 ts [[59]] j).bind fun _ j=>.ok { d with clock:=c.1,off:=c.2 } j else (C7 ts [[59]] j).bind fun _ j=>.ok d j
def G1 (ts:List Tk) (i:Nat):PR (List UInt8 × Nat):=(Fk ts 1 i).bind fun t j=>.ok (t.text,t.pos) j
theorem cB (ts:List Tk) (i:Nat):G1 ts i ≠ .out:=by
 unfold G1
 cases h:Fk ts 1 i with
 | out=>exact absurd h (Ki _ _ _)
 | bad a e=>exact fun e=>by cases e
 | ok a j=>exact fun e=>by cases e
theorem We (ts:List Tk) (i:Nat):He ts i ≠ .out:=by
 unfold He
 cases h:Fk ts 1 i with
 | out=>exact absurd h (Ki _ _ _)
 | bad a e=>exact fun e=>by cases e
 | ok a j =>
  rw [Cw]
  cases h:C7 ts [[58]] j with
  | out=>exact absurd h (Fm _ _ _)
  | bad a e=>exact fun e=>by cases e
  | ok a j =>
   rw [Cw]
   split
   ·cases h:C7 ts [[105,110,116],[98,111,111,108]] (j + 1) with
    | out=>exact absurd h (Fm _ _ _)
    | bad a e=>exact fun e=>by cases e
    | ok a j=>exact fun e=>by cases e
   ·cases h:C7 ts [[105,110,116],[98,111,111,108]] j with
    | out=>exact absurd h (Fm _ _ _)
    | bad a e=>exact fun e=>by cases e
    | ok a j=>exact fun e=>by cases e
theorem iX (ts:List Tk) (i:Nat):Hc ts i ≠ .out:=by
 unfold Hc
 split
 ·cases h:Fk ts 1 (i + 1) with
  | out=>exact absurd h (Ki _ _ _)
  | bad a e=>exact fun e=>by cases e
  | ok a j=>exact fun e=>by cases e
 ·cases h:Fk ts 1 i with
  | out=>exact absurd h (Ki _ _ _)
  | bad a e=>exact fun e=>by cases e
  | ok a j=>exact fun e=>by cases e
theorem Yw (ts:List Tk) (i:Nat):Fi ts i ≠ .out:=by
 unfold Fi
 cases h:He ts i with
 | out=>exact absurd h (We _ _)
 | bad a e=>exact fun e=>by cases e
 | ok a j =>
  rw [Cw]
  split
  ·cases h:Hc ts (j + 1) with
   | out=>exact absurd h (iX _ _)
   | bad a e=>exact fun e=>by cases e
   | ok a j =>
    rw [Cw]
    cases h:C7 ts [[59]] j with
    | out=>exact absurd h (Fm _ _ _)
    | bad a e=>exact fun e=>by cases e
    | ok a j=>exact fun e=>by cases e
  ·cases h:C7 ts [[59]] j with
   | out=>exact absurd h (Fm _ _ _)
   | bad a e=>exact fun e=>by cases e
   | ok a j=>exact fun e=>by cases e
theorem b52 (x y:Bool):Hl Tryz.prog 52 [(0,.v (.bool x)),(1,.v (.bool y))]=some (.agg [.v (.bool x),.v (.bool y)]):=by kernel_rfl
theorem b54 (s:List UInt8) (a:Nat) (x y:Bool):Hl Tryz.prog 54 [(0,.v (.string ⟨⟨s⟩⟩)),(1,.v (.int .i64 (a:Int))),(2,.agg [.v (.bool x),.v (.bool y)])]=some (.agg (Ge ⟨s,a,x,y,[],false⟩)):=by kernel_rfl
theorem b59 (s:List UInt8) (a:Nat):Hl Tryz.prog 59 [(0,.v (.string ⟨⟨s⟩⟩)),(1,.v (.int .i64 (a:Int)))]=some (.agg (Ho (s,a))):=by kernel_rfl
def rI {α:Type} (p k:Nat) (ts:List Tk) (fid:Nat) (Rep:AV → α → Prop) (x:Nat → PR α):Prop:=∀ S i,Cur S p k ts i → p < S.next → i < ts.length → WC E1 fid [.ptr p 0] S (Nt p k ts S Rep (x i))
theorem uL (b:Nat):Cy Tryz.prog 54 (.ptr b 0) 3=some (.ptr b 4):=by kernel_rfl
theorem uK (b:Nat):Cy Tryz.prog 54 (.ptr b 0) 4=some (.ptr b 5):=by kernel_rfl
theorem sD {S:St} {id:Nat} {d:PD} (h:S.mem.get id=some (.box (Ge d))) (s:List UInt8):C9 Tryz.prog S 9 (.ptr id 4) (Cj s)=some (S.put id (Ge { d with clock:=s })):=by
 have h2:(Cj s).noTup=true:=rfl
 have h3:(Cj s).cells=[Cj s]:=rfl
 simp [C9,h,s9,h2,h3,St.put,Ge]
theorem st54_off {S:St} {id:Nat} {d:PD} (h:S.mem.get id=some (.box (Ge d))) (o:Bool):C9 Tryz.prog S 4 (.ptr id 5) (.v (.bool o))=some (S.put id (Ge { d with off:=o })):=by
 have h2:(AV.v (.bool o)).noTup=true:=rfl
 have s4:Fq Tryz.prog 4=some 1:=by kernel_rfl
 simp [C9,h,s4,h2,AV.cells,St.put,Ge]
section
variable {p k:Nat} {ts:List Tk} (hts:TokOk ts)
include hts
set_option maxHeartbeats 16000000 in
theorem tM:rI p k ts 180 tW (G1 ts):=fun S i h hp hi=>by
 obtain ⟨fn1,hf1⟩:=Ob
 refine Dt Tryz.f180 (by kernel_rfl) (by kernel_rfl) (by kernel_rfl) (show (_:Nat) ≤ _ from by show (_:Nat) ≤ _; simp [Tryz.f180]) ?_
 unfold G1
 obtain ⟨x1,c1,br,hp1⟩:=oS mN h hp
 have y2:=x1
 simp only [A8,Bj,A6,Bl,A9,A7,Bb,A5,A4,Bd,Bc,B7,A0,A1,Bm,Bz,ofOpt,ofOptS,Be,Bv,Nat.reduceLT,Nat.reduceEqDiff,Aa,Ab,Ac,Ae,Aj,Ak,Tryz.f180,fp0,hf1,alo59]
 refine WC.mono (Q4 c1 hp1 hi hts 1 (by decide)) ?_
 cases hX3:Fk ts 1 i with
 | out=>exact absurd hX3 (Ki _ _ _)
 | bad a e =>
  rintro _ ⟨S3,rfl,x3⟩
  simp only [Bu,B1,Bt]
  exact ⟨_,rfl,y2.trans x3⟩
 | ok a3 j3 =>
  rintro _ ⟨_,S3,rfl,rfl,x3,c3,hi3⟩
  have hp3:p < S3.next:=Nat.lt_of_lt_of_le hp1 x3.1
  have y4:=(y2).trans x3
  have br_4:=br.keep x3
  rw [Cw]
  obtain ⟨S5,q5,x5,c5,bt,hp5⟩:=Ej c3 hp3 a3
  have y6:=(y4).trans x5
  have br_6:=br_4.keep x5
  have lp:=bt.pos
  have lt:=bt.text
  simp only [A8,Bj,A6,Bl,A9,A7,Bh,Bk,A5,Bf,A4,Bd,Bc,A0,A1,ofOpt,ofOptS,Bv,Bs,Nat.reduceLT,Nat.reduceEqDiff,Aa,Ab,Ac,Fv,q5,fd1,fa2,lp,lt,b59]
  obtain ⟨g7,h7,gx,gc⟩:=V3 ag59 nB (S0:=S) c5 br_6 rfl (Nat.le_refl _) y6 (xs:=(Ho (a3.text,a3.pos))) rfl
  simp only [By,A6,Bl,Bh,Bk,A0,A1,Bv,Bi,B0,Bg,Cd,Nat.reduceEqDiff,Aa,Ab,g7,h7]
  exact ⟨_,_,rfl,rfl,gx,gc,hi3⟩
set_option maxHeartbeats 16000000 in
theorem vA:rI p k ts 126 cF (He ts):=fun S i h hp hi=>by
 obtain ⟨fn1,hf1⟩:=Ob
 obtain ⟨fn2,hf2⟩:=I9
 obtain ⟨fn3,hf3⟩:=Mn
 refine Dt Tryz.f126 (by kernel_rfl) (by kernel_rfl) (by kernel_rfl) (show (_:Nat) ≤ _ from by show (_:Nat) ≤ _; simp [Tryz.f126]) ?_
 unfold He
 obtain ⟨x1,c1,br,hp1⟩:=oS dX h hp
 have y2:=x1
 simp only [A8,Bj,A6,Bl,A9,A7,Bb,A5,A4,Bd,Bc,B7,A0,A1,Bm,Bz,ofOpt,ofOptS,Be,Bv,Nat.reduceLT,Nat.reduceEqDiff,Aa,Ab,Ac,Ae,Aj,Ak,Tryz.f126,fp0,hf1,qY]
 refine WC.mono (Q4 c1 hp1 hi hts 1 (by decide)) ?_
 cases hX3:Fk ts 1 i with
 | out=>exact absurd hX3 (Ki _ _ _)
 | bad a e =>
  rintro _ ⟨S3,rfl,x3⟩
  simp only [Bu,B1,Bt]
  exact ⟨_,rfl,y2.trans x3⟩
 | ok a3 j3 =>
  rintro _ ⟨_,S3,rfl,rfl,x3,c3,hi3⟩
  have hp3:p < S3.next:=Nat.lt_of_lt_of_le hp1 x3.1
  have y4:=(y2).trans x3
  have br_4:=br.keep x3
  rw [Cw]
  obtain ⟨S5,q5,x5,c5,bt,hp5⟩:=Ej c3 hp3 a3
  have y6:=(y4).trans x5
  have br_6:=br_4.keep x5
  simp only [A8,Bj,A6,Bl,A9,A7,Bh,Bb,Bk,A5,Bf,A4,Bd,Bc,A0,A1,Bm,Bz,ofOpt,ofOptS,Be,Bv,Bs,Nat.reduceLT,Nat.reduceEqDiff,Aa,Ab,Ac,Aj,Ak,Fv,fp0,C2,hf3,q5]
  refine WC.mono (Hh c5 hp5 hi3 hts 1 0 [[58]] (by decide) (by decide)) ?_
  cases hX7:C7 ts [[58]] j3 with
  | out=>exact absurd hX7 (Fm _ _ _)
  | bad a e =>
   rintro _ ⟨S7,rfl,x7⟩
   simp only [Bu,B1,Bt]
   exact ⟨_,rfl,y6.trans x7⟩
  | ok a7 j7 =>
   rintro _ ⟨_,S7,rfl,rfl,x7,c7,hi7⟩
   have hp7:p < S7.next:=Nat.lt_of_lt_of_le hp5 x7.1
   have y8:=(y6).trans x7
   have br_8:=br_6.keep x7
   have bt_8:=bt.keep x7
   rw [Cw]
   by_cases hm:(tk ts j7).text ∈ [[102,117,116,117,114,101]]
   ·rw [if_pos hm]
    simp only [A8,Bj,A6,Bl,A9,A7,Bb,A5,Bf,A4,Bd,Bc,A0,A1,Bm,Bz,ofOpt,Be,Bv,Bs,Nat.reduceLT,Nat.reduceEqDiff,Aa,Ab,Ac,Aj,Ak,fp0,C2,hf2]
    refine WC.mono (Js c7 hp7 hi7 hts 1 0 [[102,117,116,117,114,101]] (by decide) (by decide) hm) ?_
    rintro _ ⟨S9,rfl,x9,c9,hi9,hp9⟩
    have y10:=(y8).trans x9
    have br_10:=br_8.keep x9
    have bt_10:=bt_8.keep x9
    obtain ⟨S11,q11,x11,c11,bf,hp11⟩:=Ej c9 hp9 (tk ts j7)
    have y12:=(y10).trans x11
    have br_12:=br_10.keep x11
    have bt_12:=bt_10.keep x11
    simp only [A8,Bj,A6,Bl,A9,A7,Bh,Bb,Bk,A5,Bf,A4,Bd,Bc,A0,A1,Bm,Bz,ofOpt,ofOptS,Be,Bv,Bs,Nat.reduceLT,Nat.reduceEqDiff,Aa,Ab,Ac,Ag,Ah,Aj,Ak,Fv,fp0,B8,Tb,hf3,q11]
    refine WC.mono (Hh c11 hp11 hi9 hts 1 0 [[105,110,116],[98,111,111,108]] (by decide) (by decide)) ?_
    cases hX13:C7 ts [[105,110,116],[98,111,111,108]] (j7 + 1) with
    | out=>exact absurd hX13 (Fm _ _ _)
    | bad a e =>
     rintro _ ⟨S13,rfl,x13⟩
     simp only [Bu,B1,Bt]
     exact ⟨_,rfl,y12.trans x13⟩
    | ok a13 j13 =>
     rintro _ ⟨_,S13,rfl,rfl,x13,c13,hi13⟩
     have hp13:p < S13.next:=Nat.lt_of_lt_of_le hp11 x13.1
     have y14:=(y12).trans x13
     have br_14:=br_12.keep x13
     have bt_14:=bt_12.keep x13
     have bf_14:=bf.keep x13
     rw [Cw]
     obtain ⟨S15,q15,x15,c15,bu,hp15⟩:=Ej c13 hp13 a13
     have y16:=(y14).trans x15
     have br_16:=br_14.keep x15
     have bt_16:=bt_14.keep x15
     have bf_16:=bf_14.keep x15
     have lp:=bt_16.pos
     have lt:=bt_16.text
     have lu:=bu.text
     simp only [A8,Bj,A6,Bl,A9,A7,Bh,Bk,A5,Bf,A4,Bd,Bc,A0,A1,ofOpt,ofOptS,Be,Bv,Bs,Nat.reduceLT,Nat.reduceEqDiff,Aa,Ab,Ac,Am,Fv,q15,fd1,fa2,lp,lt,lu,Dg,Q8,b52,b54]
     obtain ⟨g17,h17,gx,gc⟩:=V3 vM Z8 (S0:=S) c15 br_16 rfl (Nat.le_refl _) y16 (xs:=(Ge ⟨a3.text,a3.pos,decide (a13.text=[98,111,111,108]),true,[],false⟩)) rfl
     simp only [By,A6,Bl,Bh,Bk,A0,A1,Bv,Bi,B0,Bg,Cd,Nat.reduceEqDiff,Aa,Ab,g17,h17]
     exact ⟨_,_,rfl,rfl,gx,gc,hi13⟩
   ·rw [if_neg hm]
    simp only [A8,Bj,A6,Bl,A9,A7,Bb,A5,Bf,A4,Bd,Bc,A0,A1,Bm,Bz,ofOpt,Be,Bv,Bs,Nat.reduceLT,Nat.reduceEqDiff,Aa,Ab,Ac,Aj,Ak,fp0,C2,hf2]
    refine WC.mono (Kn c7 hp7 hi7 hts 1 0 [[102,117,116,117,114,101]] (by decide) hm) ?_
    rintro _ ⟨S18,rfl,x18,c18,hi18,hp18⟩
    have y19:=(y8).trans x18
    have br_19:=br_8.keep x18
    have bt_19:=bt_8.keep x18
    obtain ⟨S20,q20,x20,c20,bf,hp20⟩:=Ej c18 hp18 C1
    have y21:=(y19).trans x20
    have br_21:=br_19.keep x20
    have bt_21:=bt_19.keep x20
    simp only [A8,Bj,A6,Bl,A9,A7,Bh,Bb,Bk,A5,Bf,A4,Bd,Bc,A0,A1,Bm,Bz,ofOpt,ofOptS,Be,Bv,Bs,Nat.reduceLT,Nat.reduceEqDiff,Aa,Ab,Ac,Ag,Ah,Aj,Ak,Fv,fp0,B8,Tb,hf3,q20]
    refine WC.mono (Hh c20 hp20 hi18 hts 1 0 [[105,110,116],[98,111,111,108]] (by decide) (by decide)) ?_
    cases hX22:C7 ts [[105,110,116],[98,111,111,108]] j7 with
    | out=>exact absurd hX22 (Fm _ _ _)
    | bad a e =>
     rintro _ ⟨S22,rfl,x22⟩
     simp only [Bu,B1,Bt]
     exact ⟨_,rfl,y21.trans x22⟩
    | ok a22 j22 =>
     rintro _ ⟨_,S22,rfl,rfl,x22,c22,hi22⟩
     have hp22:p < S22.next:=Nat.lt_of_lt_of_le hp20 x22.1
     have y23:=(y21).trans x22
     have br_23:=br_21.keep x22
     have bt_23:=bt_21.keep x22
     have bf_23:=bf.keep x22
     rw [Cw]
     obtain ⟨S24,q24,x24,c24,bu,hp24⟩:=Ej c22 hp22 a22
     have y25:=(y23).trans x24
     have br_25:=br_23.keep x24
     have bt_25:=bt_23.keep x24
     have bf_25:=bf_23.keep x24
     have lp:=bt_25.pos
     have lt:=bt_25.text
     have lu:=bu.text
     simp only [A8,Bj,A6,Bl,A9,A7,Bh,Bk,A5,Bf,A4,Bd,Bc,A0,A1,ofOpt,ofOptS,Be,Bv,Bs,Nat.reduceLT,Nat.reduceEqDiff,Aa,Ab,Ac,Am,Fv,q24,fd1,fa2,lp,lt,lu,Dg,Q8,b52,b54]
     obtain ⟨g26,h26,gx,gc⟩:=V3 vM Z8 (S0:=S) c24 br_25 rfl (Nat.le_refl _) y25 (xs:=(Ge ⟨a3.text,a3.pos,decide (a22.text=[98,111,111,108]),false,[],false⟩)) rfl
     simp only [By,A6,Bl,Bh,Bk,A0,A1,Bv,Bi,B0,Bg,Cd,Nat.reduceEqDiff,Aa,Ab,g26,h26]
     exact ⟨_,_,rfl,rfl,gx,gc,hi22⟩
set_option maxHeartbeats 16000000 in
theorem iT:rI p k ts 157 cF (Fi ts):=fun S i h hp hi=>by
 obtain ⟨fn1,hf1⟩:=lQ
 obtain ⟨fn2,hf2⟩:=I9
 obtain ⟨fn3,hf3⟩:=yF
 obtain ⟨fn4,hf4⟩:=Mn
 refine Dt Tryz.f157 (by kernel_rfl) (by kernel_rfl) (by kernel_rfl) (show (_:Nat) ≤ _ from by show (_:Nat) ≤ _; simp [Tryz.f157]) ?_
 unfold Fi
 obtain ⟨x1,c1,br,hp1⟩:=oS dX h hp
 have y2:=x1
 simp only [A8,Bj,A6,Bl,A9,A7,Bb,A5,A4,Bd,Bc,B7,A0,A1,Bm,Bz,ofOpt,ofOptS,Bv,Nat.reduceLT,Nat.reduceEqDiff,Aa,Ab,Ac,Ae,Aj,Ak,Tryz.f157,hf1,qY]
 refine WC.mono (vA hts _ _ c1 hp1 hi) ?_
 cases hX3:He ts i with
 | out=>exact absurd hX3 (We _ _)
 | bad a e =>
  rintro _ ⟨S3,rfl,x3⟩
  simp only [Bu,B1,Bt]
  exact ⟨_,rfl,y2.trans x3⟩
 | ok a3 j3 =>
  rintro _ ⟨_,S3,rfl,rfl,x3,c3,hi3⟩
  have hp3:p < S3.next:=Nat.lt_of_lt_of_le hp1 x3.1
  have y4:=(y2).trans x3
  have br_4:=br.keep x3
  rw [Cw]
  have hda:Gt a3=.agg (Ge a3):=rfl
  obtain ⟨S5,q5,x5,c5,bd,hp5⟩:=zD Z8 dX rfl c3 hp3 (xs:=Ge a3) rfl
  have y6:=(y4).trans x5
  have br_6:=br_4.keep x5
  by_cases hm:(tk ts j3).text ∈ [[119,104,101,110]]
  ·rw [if_pos hm]
   simp only [A8,Bj,A6,Bl,A9,A7,Bh,Bb,Bk,A5,Bf,A4,Bd,Bc,A0,A1,Bm,Bz,ofOpt,ofOptS,Be,Bv,Bs,Nat.reduceLT,Nat.reduceEqDiff,Aa,Ab,Ac,Aj,Ak,fp0,C2,hf2,qY,hda,q5]
   refine WC.mono (Js c5 hp5 hi3 hts 1 0 [[119,104,101,110]] (by decide) (by decide) hm) ?_
   rintro _ ⟨S7,rfl,x7,c7,hi7,hp7⟩
   have y8:=(y6).trans x7
   have br_8:=br_6.keep x7
   have bd_8:=bd.keep x7
   obtain ⟨S9,q9,x9,c9,bt,hp9⟩:=Ej c7 hp7 (tk ts j3)
   have y10:=(y8).trans x9
   have br_10:=br_8.keep x9
   have bd_10:=bd_8.keep x9
   simp only [Br,A8,Bj,Bp,A6,Bl,A9,A7,Bh,Bb,Bk,A5,Bf,Cp,A4,Bd,Bc,A0,A1,Bm,Bz,ofOpt,ofOptS,Be,Bv,Bs,Nat.reduceLT,Nat.reduceEqDiff,Aa,Ab,Ac,Ag,Ah,Aj,Ak,Fv,fp0,B8,C2,hf3,hf4,q9]
   have hne:S3.next ≠ S.next:=by have:=br_4.lt; omega
   refine WC.mono (zA _ _ _ _ _ c9 hp9 hi7 hts) ?_
   cases hX11:Hc ts (j3 + 1) with
   | out=>exact absurd hX11 (iX _ _)
   | bad a e =>
    rintro _ ⟨S11,rfl,x11⟩
    simp only [Bu,B1,Bt]
    exact ⟨_,rfl,y10.trans x11⟩
   | ok a11 j11 =>
    rintro _ ⟨_,S11,rfl,rfl,x11,c11,hi11⟩
    have hp11:p < S11.next:=Nat.lt_of_lt_of_le hp9 x11.1
    have y12:=(y10).trans x11
    have br_12:=br_10.keep x11
    have bd_12:=bd_10.keep x11
    have bt_12:=bt.keep x11
    rw [Cw]
    have st901:=sD bd_12.get a11.1
    obtain ⟨px901,pc901,pb901,pr901⟩:=Tn (ys:=Ge { a3 with clock:=a11.1 }) y12 y4.1 bd_12 c11 br_12 hne
    have st902:=st54_off (d:={ a3 with clock:=a11.1 }) pb901.get a11.2
    obtain ⟨px902,pc902,pb902,pr902⟩:=Tn (ys:=Ge { a3 with clock:=a11.1,off:=a11.2 }) px901 y4.1 pb901 pc901 pr901 hne
    simp only [A8,Bj,A6,Bl,A9,A7,Bh,Bb,Bk,A5,Bf,A4,Bd,Bc,A0,A1,Bm,Bz,ofOpt,Be,Bv,Bs,Nat.reduceLT,Nat.reduceEqDiff,Aa,Ab,Ac,Ag,Ah,Aj,Ak,fp0,B8,C2,hf4,uL,uK,st901,st902]
    refine WC.mono (Hh pc902 hp11 hi11 hts 1 0 [[59]] (by decide) (by decide)) ?_
    cases hX13:C7 ts [[59]] j11 with
    | out=>exact absurd hX13 (Fm _ _ _)
    | bad a e =>
     rintro _ ⟨S13,rfl,x13⟩
     simp only [Bu,B1,Bt]
     exact ⟨_,rfl,px902.trans x13⟩
    | ok a13 j13 =>
     rintro _ ⟨_,S13,rfl,rfl,x13,c13,hi13⟩
     have hp13:p < S13.next:=Nat.lt_of_lt_of_le hp11 x13.1
     have y14:=(px902).trans x13
     have bd_14:=pb902.keep x13
     have br_14:=pr902.keep x13
     rw [Cw]
     have l15:=ldG vM Z8 bd_14.get rfl
     obtain ⟨g16,h16,gx,gc⟩:=V3 vM Z8 (S0:=S) c13 br_14 rfl (Nat.le_refl _) y14 (xs:=(Ge { a3 with clock:=a11.1,off:=a11.2 })) rfl
     simp only [A8,Bj,By,A6,Bl,A9,A7,Bh,Bk,A5,Bf,A4,Bd,Bc,A0,A1,ofOpt,Bv,Bi,B0,Bg,Cd,Nat.reduceLT,Nat.reduceEqDiff,Aa,Ab,Ac,l15,g16,h16]
     exact ⟨_,_,rfl,rfl,gx,gc,hi13⟩
  ·rw [if_neg hm]
   simp only [A8,Bj,A6,Bl,A9,A7,Bh,Bb,Bk,A5,Bf,A4,Bd,Bc,A0,A1,Bm,Bz,ofOpt,ofOptS,Be,Bv,Bs,Nat.reduceLT,Nat.reduceEqDiff,Aa,Ab,Ac,Aj,Ak,fp0,C2,hf2,qY,hda,q5]
   refine WC.mono (Kn c5 hp5 hi3 hts 1 0 [[119,104,101,110]] (by decide) hm) ?_
   rintro _ ⟨S17,rfl,x17,c17,hi17,hp17⟩
   have y18:=(y6).trans x17
   have br_18:=br_6.keep x17
   have bd_18:=bd.keep x17
   obtain ⟨S19,q19,x19,c19,bt,hp19⟩:=Ej c17 hp17 C1
   have y20:=(y18).trans x19
   have br_20:=br_18.keep x19
   have bd_20:=bd_18.keep x19
   simp only [Br,A8,Bj,Bp,A6,Bl,A9,A7,Bh,Bb,Bk,A5,Bf,Cc,A4,Bd,Bc,A0,A1,Bm,Bz,ofOpt,ofOptS,Be,Bv,Bs,Nat.reduceLT,Nat.reduceEqDiff,Aa,Ab,Ac,Ag,Ah,Aj,Ak,Fv,fp0,B8,C2,hf3,hf4,q19]
   refine WC.mono (Hh c19 hp19 hi17 hts 1 0 [[59]] (by decide) (by decide)) ?_
   cases hX21:C7 ts [[59]] j3 with
   | out=>exact absurd hX21 (Fm _ _ _)
   | bad a e =>
    rintro _ ⟨S21,rfl,x21⟩
    simp only [Bu,B1,Bt]
    exact ⟨_,rfl,y20.trans x21⟩
   | ok a21 j21 =>
    rintro _ ⟨_,S21,rfl,rfl,x21,c21,hi21⟩
    have hp21:p < S21.next:=Nat.lt_of_lt_of_le hp19 x21.1
    have y22:=(y20).trans x21
    have br_22:=br_20.keep x21
    have bd_22:=bd_20.keep x21
    have bt_22:=bt.keep x21
    rw [Cw]
    have l23:=ldG vM Z8 bd_22.get rfl
    obtain ⟨g24,h24,gx,gc⟩:=V3 vM Z8 (S0:=S) c21 br_22 rfl (Nat.le_refl _) y22 (xs:=(Ge a3)) rfl
    simp only [A8,Bj,By,A6,Bl,A9,A7,Bh,Bk,A5,Bf,A4,Bd,Bc,A0,A1,ofOpt,Bv,Bi,B0,Bg,Cd,Nat.reduceLT,Nat.reduceEqDiff,Aa,Ab,Ac,l23,g24,h24]
    exact ⟨_,_,rfl,rfl,gx,gc,hi21⟩
omit hts
end
def Gb {α:Type} (ts:List Tk) (kid:Nat → PR α):Nat → List α → Nat → PR (List α)
 | 0,_,_=>.out
 | n + 1,l,i=>if (tk ts i).text ∈ [[44]] then (kid (i + 1)).bind fun y j=>Gb ts kid n (l ++ [y]) j else (C7 ts [[41]] i).bind fun _ j=>.ok l j
def Iw {α:Type} (ts:List Tk) (kid:Nat → PR α) (n i:Nat):PR (List α):=(C7 ts [[40]] i).bind fun _ j=>if (tk ts j).text ∈ [[41]] then .ok [] (j + 1) else (kid j).bind fun x m=>Gb ts kid n [x] m
def Sw (sz lo:Nat) (S:St) (tok:Nat) (es:List AV):Prop:=tok=1 ∨ (2 ≤ tok ∧ lo ≤ tok ∧ tok < S.next ∧ S.mem.get tok=some (.tip (es.length * sz)))
theorem Sw.keep {sz lo p:Nat} {S S':St} {tok:Nat} {es:List AV} (h:Sw sz lo S tok es) (k:Eb p S S') (hp:p < lo):Sw sz lo S' tok es:=by
 rcases h with h | ⟨h1,h2,h3,h4⟩
 ·exact .inl h
 ·exact .inr ⟨h1,h2,Nat.lt_of_lt_of_le h3 k.1,by rw [k.2 tok h3 (by omega)]; exact h4⟩
def Ik {α:Type} (sz:Nat) (A:α → AV) (v:AV) (l:List α):Prop:=(v=.nils ∧ l=[]) ∨ ∃ tok off,v=.sl tok off sz (l.map A)
theorem i54:(Tryz.prog.info? 54).map (fun i=>(i.zero,i.size,i.bytes))=some (some (.agg #[.string ⟨#[]⟩,.int .i64 0,.bool false,.bool false,.string ⟨#[]⟩,.bool false]),6,56):=by kernel_rfl
theorem el46:Ix Tryz.prog 46=some (none,54):=by kernel_rfl
theorem un46:Tryz.prog.underlying 46=some (.slice 54):=by kernel_rfl
theorem app46 (S:St) (a b:AV):Hk E1 S 46 46 a b=Fc Tryz.prog S 46 46 a b:=rfl
theorem zr54:L9 Tryz.prog 54=some (.agg dX):=by kernel_rfl
theorem Zd (xs:List AV) (hx:xs.length=6):Dq Tryz.prog 46 1 [(0,.agg xs)]=some (.sl 1 0 6 [.agg xs]):=by
 simp [Dq,el46,Z8,zr54,Cm,Cn,hx]
theorem push46 {lo:Nat} {S:St} {tok:Nat} {es:List AV} (h:Sw 6 lo S tok es) (hn:2 ≤ S.next) (hlo:lo ≤ S.next) (xs:List AV) (hx:xs.length=6) (hl:es.length ≤ 2000000) :
  ∃ S',Hk E1 S 46 46 (.sl tok 0 6 es) (.sl 1 0 6 [.agg xs])=some (.sl S.next 0 6 (es ++ [.agg xs]),S') ∧ Sw 6 lo S' S.next (es ++ [.agg xs]) ∧ S.next ≤ S'.next ∧ ∀ id,id < lo → S'.mem.get id=S.mem.get id:=by
 obtain ⟨i,hi,hz0,hz1,hz2⟩:=G2 i54
 have hb1:(es.length + 1) * 56 ≤ 140737488355328:=by omega
 have hb2:es.length + 1 ≤ 9223372036854775807:=by omega
 rw [app46]
 rcases h with rfl | ⟨h1,h2,h3,h5⟩
 ·refine ⟨S.grown 1 ((es ++ [AV.agg xs]).length * 6),?_,.inr ⟨hn,hlo,Nat.lt_succ_self _,?_⟩,Nat.le_succ _,fun id hid=>?_⟩
  ·simp [Fc,el46,hi,hz0,hz1,hz2,L6,un46,Value.cells,N4,hb1,hb2]
  ·show (S.mem.set S.next _).get S.next=_
   rw [T.get_set,if_pos rfl]
  ·show (S.mem.set S.next _).get id=_
   rw [T.get_set,if_neg (by omega)]
 ·obtain ⟨k,rfl⟩:∃ k,tok=k + 2:=⟨tok - 2,by omega⟩
  refine ⟨S.grown (k + 2) ((es ++ [AV.agg xs]).length * 6),?_,.inr ⟨hn,hlo,Nat.lt_succ_self _,?_⟩,Nat.le_succ _,fun id hid=>?_⟩
  ·simp [Fc,el46,hi,hz0,hz1,hz2,L6,un46,Value.cells,N4,h5,hb1,hb2]
  ·show ((S.mem.set (k + 2) none).set S.next _).get S.next=_
   rw [T.get_set,if_pos rfl]
  ·show ((S.mem.set (k + 2) none).set S.next _).get id=_
   rw [T.get_set,if_neg (by omega),T.get_set,if_neg (by omega)]
noncomputable def R2:Code:=match Tryz.f156.body with
 | some (.seq _ (.seq _ (.seq (.block _ (.loop c)) _)))=>c
 | _=>.skip
def vQ (p k:Nat) (ts:List Tk) (S0:St) (x:PR (List PD)) (r:O):Prop :=
 (∃ t' S' tok l i',r=.out (.exit 0) ⟨t',[]⟩ S' ∧ t'.get 0=some (.ptr p 0) ∧ t'.get 5=some (.sl tok 0 6 (l.map Gt)) ∧ Eb p S0 S' ∧ Cur S' p k ts i' ∧ i' < ts.length ∧ p < S'.next ∧ x=(C7 ts [[41]] i').bind fun _ j=>.ok l j) ∨
 (∃ t' S' a e,r=.out (.pan (V6 a e)) ⟨t',[]⟩ S' ∧ Eb p S0 S' ∧ x=.bad a e)
section
variable {p k:Nat} {ts:List Tk} (hts:TokOk ts)
include hts
set_option maxHeartbeats 16000000 in
theorem Ve (h2p:2 ≤ p) (m:Nat) (kid:Nat → PR PD) (hkn:∀ i,kid i ≠ .out) (hF:∃ fn,E1.F m=some fn) (hkid:rI p k ts m cF kid) (S0:St) (hp0:p < S0.next):∀ (n:Nat) (l:List PD) (i:Nat) (t:T AV) (S:St) (tok:Nat),Gb ts kid n l i ≠ .out → n + l.length ≤ 2000000 →
  t.get 0=some (.ptr p 0) → t.get 1=some (L8 m p) → t.get 5=some (.sl tok 0 6 (l.map Gt)) → Cur S p k ts i → p < S.next → i < ts.length → Sw 6 S0.next S tok (l.map Gt) → Eb p S0 S →
  WX E1 32 (.loop R2) ⟨t,[]⟩ S (vQ p k ts S0 (Gb ts kid n l i))
 | 0,l,i,t,S,tok,ho,hnl,h0,h1,h5,h,hp,hi,hr,hx=>absurd rfl ho
 | n + 1,l,i,t,S,tok,ho,hnl,h0,h1,h5,h,hp,hi,hr,hx=>by
  refine E9 (Em ?_)
  obtain ⟨fn1,hf1⟩:=I9
  obtain ⟨fn2,hf2⟩:=hF
  unfold L8 at h1
  have eP:Gb ts kid (n + 1) l i=if (tk ts i).text ∈ [[44]] then (kid (i + 1)).bind fun y j=>Gb ts kid n (l ++ [y]) j else (C7 ts [[41]] i).bind fun _ j=>.ok l j:=rfl
  rw [eP] at ho ⊢
  clear eP
  by_cases hm:(tk ts i).text ∈ [[44]]
  ·rw [if_pos hm] at ho ⊢
   simp only [A8,Bj,B3,A9,A7,Bb,A5,A4,Bd,Bc,A0,Bm,Bz,ofOpt,Be,Bv,Bs,Nat.reduceLT,Nat.reduceEqDiff,Aa,Ab,Ac,Aj,Ak,Tryz.f156,fp0,C2,hf1,h0,R2]
   refine WC.mono (Js h hp hi hts 1 0 [[44]] (by decide) (by decide) hm) ?_
   rintro _ ⟨S1,rfl,x1,c1,hi1,hp1⟩
   have y2:=(hx).trans x1
   obtain ⟨S3,q3,x3,c3,bt,hp3⟩:=Ej c1 hp1 (tk ts i)
   have y4:=(y2).trans x3
   simp only [B4,B9,Br,A8,Bj,Bp,Dk,A6,Cg,Ch,Bl,A9,A7,Bh,Bb,Bk,A5,Bf,Cc,A4,Bd,Bc,A0,Bm,Bz,ofOpt,ofOptS,Bv,Er,Ce,Ct,Nat.reduceLT,Nat.reduceEqDiff,Aa,Ab,Ac,Ag,Ah,Ak,Ar,Fv,B8,hf2,h1,h5,q3]
   refine WC.mono (hkid _ _ c3 hp3 hi1) ?_
   cases hX5:kid (i + 1) with
   | out=>exact absurd hX5 (hkn _)
   | bad a e =>
    rintro _ ⟨S5,rfl,x5⟩
    simp only [C4,Cr,B1]
    exact .inr ⟨_,_,_,_,rfl,y4.trans x5,rfl⟩
   | ok a5 j5 =>
    rw [hX5] at ho; rw [Cw] at ho ⊢
    rintro _ ⟨_,S5,rfl,rfl,x5,c5,hi5⟩
    have hp5:p < S5.next:=Nat.lt_of_lt_of_le hp3 x5.1
    have y6:=(y4).trans x5
    have bt_6:=bt.keep x5
    have hda:Gt a5=.agg (Ge a5):=rfl
    have l7:=Zd (Ge a5) rfl
    have hr2:Sw 6 S0.next S5 tok (l.map Gt):=hr.keep (((x1).trans x3).trans x5:Eb p S S5) hp0
    have hle:=y6.1
    obtain ⟨S8,a8,r8,n8,k8⟩:=push46 hr2 (by omega) hle (Ge a5) rfl (by rw [List.length_map]; omega)
    have z8:Eb p S0 S8:=⟨Nat.le_trans hle n8,fun id hid hn=>(k8 id hid).trans (y6.2 id hid hn)⟩
    have cc8:Cur S8 p k ts j5:=(k8 p hp0).trans c5
    have em:l.map Gt ++ [AV.agg (Ge a5)]=(l ++ [a5]).map Gt:=by rw [List.map_append]; rfl
    rw [em] at a8 r8
    simp only [B4,Bw,Bl,A9,A7,A5,Bf,A4,Bd,Bc,A0,Bm,ofOpt,ofOptS,Bv,Bs,Nat.reduceLT,Nat.reduceEqDiff,Aa,Ab,Ac,hda,l7,a8]
    exact Ve h2p m kid hkn ⟨_,hf2⟩ hkid S0 hp0 n _ _ _ _ _ ho (by rw [List.length_append]; simp; omega) (by simp [T.get_set,h0]) (by simp [T.get_set,h1,L8]) (by simp [T.get_set]) cc8 (by omega) hi5 r8 z8
  ·rw [if_neg hm] at ho ⊢
   simp only [A8,Bj,B3,A9,A7,Bb,A5,A4,Bd,Bc,A0,Bm,Bz,ofOpt,Be,Bv,Bs,Nat.reduceLT,Nat.reduceEqDiff,Aa,Ab,Ac,Aj,Ak,Tryz.f156,fp0,C2,hf1,h0,R2]
   refine WC.mono (Kn h hp hi hts 1 0 [[44]] (by decide) hm) ?_
   rintro _ ⟨S9,rfl,x9,c9,hi9,hp9⟩
   have y10:=(hx).trans x9
   obtain ⟨S11,q11,x11,c11,bt,hp11⟩:=Ej c9 hp9 C1
   have y12:=(y10).trans x11
   simp only [B4,B9,Br,A8,Bj,Bp,Dk,A6,Cg,Ch,Bl,A9,A7,Bh,Bb,Bk,A5,Bf,Cp,A4,Bd,Bc,A0,Bm,Bz,ofOpt,ofOptS,Bv,Er,Ce,Ct,Nat.reduceLT,Nat.reduceEqDiff,Aa,Ab,Ac,Ag,Ah,Ak,Au,Fv,B8,hf2,h1,h5,q11]
   exact .inl ⟨_,_,tok,l,i,rfl,by simp [T.get_set,h0],by simp [T.get_set,h5],y12,c11,hi9,hp11,rfl⟩
set_option maxHeartbeats 16000000 in
theorem rest_p156 (h2p:2 ≤ p) (m:Nat) (kid:Nat → PR PD) (hkn:∀ i,kid i ≠ .out) (hF:∃ fn,E1.F m=some fn) (hkid:rI p k ts m cF kid) (n:Nat) (hn:n ≤ 1000000) (S:St) (i:Nat) (h:Cur S p k ts i) (hp:p < S.next) (hi:i < ts.length) (ho:((kid i).bind fun x j=>Gb ts kid n [x] j) ≠ .out):WC E1 156 [.ptr p 0,L8 m p] S (Nt p k ts S (Ik 6 Gt) ((kid i).bind fun x j=>Gb ts kid n [x] j)):=by
 refine Dt Tryz.f156 (by kernel_rfl) (by kernel_rfl) (by kernel_rfl) (show (_:Nat) ≤ _ from by show (_:Nat) ≤ _; simp [Tryz.f156]) ?_
 obtain ⟨fn2,hf2⟩:=hF
 obtain ⟨fn3,hf3⟩:=Mn
 simp only [A8,Bj,A6,Bl,A9,A7,Bb,A5,A4,Bd,Bc,B7,A0,A1,Bm,Bz,ofOpt,Be,Nat.reduceLT,Nat.reduceAdd,Nat.reduceEqDiff,Aa,Ab,Ac,Ae,Ak,Tryz.f156,hf2,L8]
 refine WC.mono (hkid _ _ h hp hi) ?_
 cases hX1:kid i with
 | out=>exact absurd hX1 (hkn _)
 | bad a e =>
  rintro _ ⟨S1,rfl,x1⟩
  simp only [Bu,B1,Bt]
  exact ⟨_,rfl,x1⟩
 | ok a1 j1 =>
  rw [hX1] at ho; rw [Cw] at ho ⊢
  rintro _ ⟨_,S1,rfl,rfl,x1,c1,hi1⟩
  have hp1:p < S1.next:=Nat.lt_of_lt_of_le hp x1.1
  have y2:=x1
  have hda:Gt a1=.agg (Ge a1):=rfl
  have l3:=Zd (Ge a1) rfl
  simp only [Bj,B3,D3,A6,Bl,A9,A7,A5,Bf,A4,Bd,Bc,A0,A1,ofOpt,Bv,Bs,Nat.reduceLT,Nat.reduceEqDiff,Aa,Ab,Ac,hda,l3]
  refine WX.mono (Ve hts h2p m kid hkn ⟨_,hf2⟩ hkid S hp n [a1] j1 _ _ 1 ho (by simp; omega) (by simp [T.get_set]) (by simp [T.get_set,L8]) (by simp [T.get_set,hda]) c1 hp1 hi1 (.inl rfl) y2) ?_
  rintro _ (⟨t9,S9,tok9,l9,i9,rfl,g0,g5,x9,c9,hi9,hp9,e9⟩ | ⟨t9,S9,a9,e9,rfl,x9,q9⟩)
  ·rw [e9]
   simp only [A8,Bj,A6,Cg,Ch,A9,A7,Bb,A5,A4,Bd,Bc,A0,Bm,Bz,ofOpt,Be,Bv,Bs,Nat.reduceLT,Nat.reduceEqDiff,Aa,Ab,Ac,Aj,Ak,fp0,C2,hf3,g0]
   refine WC.mono (Hh c9 hp9 hi9 hts 1 0 [[41]] (by decide) (by decide)) ?_
   cases hX4:C7 ts [[41]] i9 with
   | out=>exact absurd hX4 (Fm _ _ _)
   | bad a e =>
    rintro _ ⟨S4,rfl,x4⟩
    simp only [Bu,B1,Bt]
    exact ⟨_,rfl,x9.trans x4⟩
   | ok a4 j4 =>
    rintro _ ⟨_,S4,rfl,rfl,x4,c4,hi4⟩
    have hp4:p < S4.next:=Nat.lt_of_lt_of_le hp9 x4.1
    have y5:=(x9).trans x4
    simp only [A8,Bj,By,A6,Bl,A9,A7,A5,Bf,A4,Bd,Bc,A0,ofOpt,Bi,B0,Bg,Cd,Nat.reduceLT,Nat.reduceEqDiff,Aa,Ab,Ac,g5]
    exact ⟨_,_,rfl,.inr ⟨_,_,rfl⟩,y5,c4,hi4⟩
  ·rw [q9]
   simp only [Bu,Cr,Bt]
   exact ⟨_,rfl,x9⟩
end
theorem i59:(Tryz.prog.info? 59).map (fun i=>(i.zero,i.size,i.bytes))=some (some (.agg #[.string ⟨#[]⟩,.int .i64 0]),2,24):=by kernel_rfl
theorem uP:Ix Tryz.prog 55=some (none,59):=by kernel_rfl
theorem rU:Tryz.prog.underlying 55=some (.slice 59):=by kernel_rfl
theorem app55 (S:St) (a b:AV):Hk E1 S 55 55 a b=Fc Tryz.prog S 55 55 a b:=rfl
theorem zr59:L9 Tryz.prog 59=some (.agg mN):=by kernel_rfl
theorem Zc (xs:List AV) (hx:xs.length=2):Dq Tryz.prog 55 1 [(0,.agg xs)]=some (.sl 1 0 2 [.agg xs]):=by
 simp [Dq,uP,nB,zr59,Cm,Cn,hx]
theorem push55 {lo:Nat} {S:St} {tok:Nat} {es:List AV} (h:Sw 2 lo S tok es) (hn:2 ≤ S.next) (hlo:lo ≤ S.next) (xs:List AV) (hx:xs.length=2) (hl:es.length ≤ 2000000) :
  ∃ S',Hk E1 S 55 55 (.sl tok 0 2 es) (.sl 1 0 2 [.agg xs])=some (.sl S.next 0 2 (es ++ [.agg xs]),S') ∧ Sw 2 lo S' S.next (es ++ [.agg xs]) ∧ S.next ≤ S'.next ∧ ∀ id,id < lo → S'.mem.get id=S.mem.get id:=by
 obtain ⟨i,hi,hz0,hz1,hz2⟩:=G2 i59
 have hb1:(es.length + 1) * 24 ≤ 140737488355328:=by omega
 have hb2:es.length + 1 ≤ 9223372036854775807:=by omega
 rw [app55]
 rcases h with rfl | ⟨h1,h2,h3,h5⟩
 ·refine ⟨S.grown 1 ((es ++ [AV.agg xs]).length * 2),?_,.inr ⟨hn,hlo,Nat.lt_succ_self _,?_⟩,Nat.le_succ _,fun id hid=>?_⟩
  ·simp [Fc,uP,hi,hz0,hz1,hz2,L6,rU,Value.cells,N4,hb1,hb2]
  ·show (S.mem.set S.next _).get S.next=_
   rw [T.get_set,if_pos rfl]
  ·show (S.mem.set S.next _).get id=_
   rw [T.get_set,if_neg (by omega)]
 ·obtain ⟨k,rfl⟩:∃ k,tok=k + 2:=⟨tok - 2,by omega⟩
  refine ⟨S.grown (k + 2) ((es ++ [AV.agg xs]).length * 2),?_,.inr ⟨hn,hlo,Nat.lt_succ_self _,?_⟩,Nat.le_succ _,fun id hid=>?_⟩
  ·simp [Fc,uP,hi,hz0,hz1,hz2,L6,rU,Value.cells,N4,h5,hb1,hb2]
  ·show ((S.mem.set (k + 2) none).set S.next _).get S.next=_
   rw [T.get_set,if_pos rfl]
  ·show ((S.mem.set (k + 2) none).set S.next _).get id=_
   rw [T.get_set,if_neg (by omega),T.get_set,if_neg (by omega)]
noncomputable def R1:Code:=match Tryz.f181.body with
 | some (.seq _ (.seq _ (.seq (.block _ (.loop c)) _)))=>c
 | _=>.skip
def vP (p k:Nat) (ts:List Tk) (S0:St) (x:PR (List (List UInt8 × Nat))) (r:O):Prop :=
 (∃ t' S' tok l i',r=.out (.exit 0) ⟨t',[]⟩ S' ∧ t'.get 0=some (.ptr p 0) ∧ t'.get 5=some (.sl tok 0 2 (l.map Gd)) ∧ Eb p S0 S' ∧ Cur S' p k ts i' ∧ i' < ts.length ∧ p < S'.next ∧ x=(C7 ts [[41]] i').bind fun _ j=>.ok l j) ∨
 (∃ t' S' a e,r=.out (.pan (V6 a e)) ⟨t',[]⟩ S' ∧ Eb p S0 S' ∧ x=.bad a e)
section
variable {p k:Nat} {ts:List Tk} (hts:TokOk ts)
include hts
set_option maxHeartbeats 16000000 in
theorem Vd (h2p:2 ≤ p) (m:Nat) (kid:Nat → PR (List UInt8 × Nat)) (hkn:∀ i,kid i ≠ .out) (hF:∃ fn,E1.F m=some fn) (hkid:rI p k ts m tW kid) (S0:St) (hp0:p < S0.next):∀ (n:Nat) (l:List (List UInt8 × Nat)) (i:Nat) (t:T AV) (S:St) (tok:Nat),Gb ts kid n l i ≠ .out → n + l.length ≤ 2000000 →
  t.get 0=some (.ptr p 0) → t.get 1=some (L8 m p) → t.get 5=some (.sl tok 0 2 (l.map Gd)) → Cur S p k ts i → p < S.next → i < ts.length → Sw 2 S0.next S tok (l.map Gd) → Eb p S0 S →
  WX E1 32 (.loop R1) ⟨t,[]⟩ S (vP p k ts S0 (Gb ts kid n l i))
 | 0,l,i,t,S,tok,ho,hnl,h0,h1,h5,h,hp,hi,hr,hx=>absurd rfl ho
 | n + 1,l,i,t,S,tok,ho,hnl,h0,h1,h5,h,hp,hi,hr,hx=>by
  refine E9 (Em ?_)
  obtain ⟨fn1,hf1⟩:=I9
  obtain ⟨fn2,hf2⟩:=hF
  unfold L8 at h1
  have eP:Gb ts kid (n + 1) l i=if (tk ts i).text ∈ [[44]] then (kid (i + 1)).bind fun y j=>Gb ts kid n (l ++ [y]) j else (C7 ts [[41]] i).bind fun _ j=>.ok l j:=rfl
  rw [eP] at ho ⊢
  clear eP
  by_cases hm:(tk ts i).text ∈ [[44]]
  ·rw [if_pos hm] at ho ⊢
   simp only [A8,Bj,B3,A9,A7,Bb,A5,A4,Bd,Bc,A0,Bm,Bz,ofOpt,Be,Bv,Bs,Nat.reduceLT,Nat.reduceEqDiff,Aa,Ab,Ac,Aj,Ak,Tryz.f181,fp0,C2,hf1,h0,R1]
   refine WC.mono (Js h hp hi hts 1 0 [[44]] (by decide) (by decide) hm) ?_
   rintro _ ⟨S1,rfl,x1,c1,hi1,hp1⟩
   have y2:=(hx).trans x1
   obtain ⟨S3,q3,x3,c3,bt,hp3⟩:=Ej c1 hp1 (tk ts i)
   have y4:=(y2).trans x3
   simp only [B4,B9,Br,A8,Bj,Bp,Dk,A6,Cg,Ch,Bl,A9,A7,Bh,Bb,Bk,A5,Bf,Cc,A4,Bd,Bc,A0,Bm,Bz,ofOpt,ofOptS,Bv,Er,Ce,Ct,Nat.reduceLT,Nat.reduceEqDiff,Aa,Ab,Ac,Ag,Ah,Ak,Ar,Fv,B8,hf2,h1,h5,q3]
   refine WC.mono (hkid _ _ c3 hp3 hi1) ?_
   cases hX5:kid (i + 1) with
   | out=>exact absurd hX5 (hkn _)
   | bad a e =>
    rintro _ ⟨S5,rfl,x5⟩
    simp only [C4,Cr,B1]
    exact .inr ⟨_,_,_,_,rfl,y4.trans x5,rfl⟩
   | ok a5 j5 =>
    rw [hX5] at ho; rw [Cw] at ho ⊢
    rintro _ ⟨_,S5,rfl,rfl,x5,c5,hi5⟩
    have hp5:p < S5.next:=Nat.lt_of_lt_of_le hp3 x5.1
    have y6:=(y4).trans x5
    have bt_6:=bt.keep x5
    have hda:Gd a5=.agg (Ho a5):=rfl
    have l7:=Zc (Ho a5) rfl
    have hr2:Sw 2 S0.next S5 tok (l.map Gd):=hr.keep (((x1).trans x3).trans x5:Eb p S S5) hp0
    have hle:=y6.1
    obtain ⟨S8,a8,r8,n8,k8⟩:=push55 hr2 (by omega) hle (Ho a5) rfl (by rw [List.length_map]; omega)
    have z8:Eb p S0 S8:=⟨Nat.le_trans hle n8,fun id hid hn=>(k8 id hid).trans (y6.2 id hid hn)⟩
    have cc8:Cur S8 p k ts j5:=(k8 p hp0).trans c5
    have em:l.map Gd ++ [AV.agg (Ho a5)]=(l ++ [a5]).map Gd:=by rw [List.map_append]; rfl
    rw [em] at a8 r8
    simp only [B4,Bw,Bl,A9,A7,A5,Bf,A4,Bd,Bc,A0,Bm,ofOpt,ofOptS,Bv,Bs,Nat.reduceLT,Nat.reduceEqDiff,Aa,Ab,Ac,hda,l7,a8]
    exact Vd h2p m kid hkn ⟨_,hf2⟩ hkid S0 hp0 n _ _ _ _ _ ho (by rw [List.length_append]; simp; omega) (by simp [T.get_set,h0]) (by simp [T.get_set,h1,L8]) (by simp [T.get_set]) cc8 (by omega) hi5 r8 z8
  ·rw [if_neg hm] at ho ⊢
   simp only [A8,Bj,B3,A9,A7,Bb,A5,A4,Bd,Bc,A0,Bm,Bz,ofOpt,Be,Bv,Bs,Nat.reduceLT,Nat.reduceEqDiff,Aa,Ab,Ac,Aj,Ak,Tryz.f181,fp0,C2,hf1,h0,R1]
   refine WC.mono (Kn h hp hi hts 1 0 [[44]] (by decide) hm) ?_
   rintro _ ⟨S9,rfl,x9,c9,hi9,hp9⟩
   have y10:=(hx).trans x9
   obtain ⟨S11,q11,x11,c11,bt,hp11⟩:=Ej c9 hp9 C1
   have y12:=(y10).trans x11
   simp only [B4,B9,Br,A8,Bj,Bp,Dk,A6,Cg,Ch,Bl,A9,A7,Bh,Bb,Bk,A5,Bf,Cp,A4,Bd,Bc,A0,Bm,Bz,ofOpt,ofOptS,Bv,Er,Ce,Ct,Nat.reduceLT,Nat.reduceEqDiff,Aa,Ab,Ac,Ag,Ah,Ak,Au,Fv,B8,hf2,h1,h5,q11]
   exact .inl ⟨_,_,tok,l,i,rfl,by simp [T.get_set,h0],by simp [T.get_set,h5],y12,c11,hi9,hp11,rfl⟩
set_option maxHeartbeats 16000000 in
theorem rest_p181 (h2p:2 ≤ p) (m:Nat) (kid:Nat → PR (List UInt8 × Nat)) (hkn:∀ i,kid i ≠ .out) (hF:∃ fn,E1.F m=some fn) (hkid:rI p k ts m tW kid) (n:Nat) (hn:n ≤ 1000000) (S:St) (i:Nat) (h:Cur S p k ts i) (hp:p < S.next) (hi:i < ts.length) (ho:((kid i).bind fun x j=>Gb ts kid n [x] j) ≠ .out):WC E1 181 [.ptr p 0,L8 m p] S (Nt p k ts S (Ik 2 Gd) ((kid i).bind fun x j=>Gb ts kid n [x] j)):=by
 refine Dt Tryz.f181 (by kernel_rfl) (by kernel_rfl) (by kernel_rfl) (show (_:Nat) ≤ _ from by show (_:Nat) ≤ _; simp [Tryz.f181]) ?_
 obtain ⟨fn2,hf2⟩:=hF
 obtain ⟨fn3,hf3⟩:=Mn
 simp only [A8,Bj,A6,Bl,A9,A7,Bb,A5,A4,Bd,Bc,B7,A0,A1,Bm,Bz,ofOpt,Be,Nat.reduceLT,Nat.reduceAdd,Nat.reduceEqDiff,Aa,Ab,Ac,Ae,Ak,Tryz.f181,hf2,L8]
 refine WC.mono (hkid _ _ h hp hi) ?_
 cases hX1:kid i with
 | out=>exact absurd hX1 (hkn _)
 | bad a e =>
  rintro _ ⟨S1,rfl,x1⟩
  simp only [Bu,B1,Bt]
  exact ⟨_,rfl,x1⟩
 | ok a1 j1 =>
  rw [hX1] at ho; rw [Cw] at ho ⊢
  rintro _ ⟨_,S1,rfl,rfl,x1,c1,hi1⟩
  have hp1:p < S1.next:=Nat.lt_of_lt_of_le hp x1.1
  have y2:=x1
  have hda:Gd a1=.agg (Ho a1):=rfl
  have l3:=Zc (Ho a1) rfl
  simp only [Bj,B3,D3,A6,Bl,A9,A7,A5,Bf,A4,Bd,Bc,A0,A1,ofOpt,Bv,Bs,Nat.reduceLT,Nat.reduceEqDiff,Aa,Ab,Ac,hda,l3]
  refine WX.mono (Vd hts h2p m kid hkn ⟨_,hf2⟩ hkid S hp n [a1] j1 _ _ 1 ho (by simp; omega) (by simp [T.get_set]) (by simp [T.get_set,L8]) (by simp [T.get_set,hda]) c1 hp1 hi1 (.inl rfl) y2) ?_
  rintro _ (⟨t9,S9,tok9,l9,i9,rfl,g0,g5,x9,c9,hi9,hp9,e9⟩ | ⟨t9,S9,a9,e9,rfl,x9,q9⟩)
  ·rw [e9]
   simp only [A8,Bj,A6,Cg,Ch,A9,A7,Bb,A5,A4,Bd,Bc,A0,Bm,Bz,ofOpt,Be,Bv,Bs,Nat.reduceLT,Nat.reduceEqDiff,Aa,Ab,Ac,Aj,Ak,fp0,C2,hf3,g0]
   refine WC.mono (Hh c9 hp9 hi9 hts 1 0 [[41]] (by decide) (by decide)) ?_
   cases hX4:C7 ts [[41]] i9 with
   | out=>exact absurd hX4 (Fm _ _ _)
   | bad a e =>
    rintro _ ⟨S4,rfl,x4⟩
    simp only [Bu,B1,Bt]
    exact ⟨_,rfl,x9.trans x4⟩
   | ok a4 j4 =>
    rintro _ ⟨_,S4,rfl,rfl,x4,c4,hi4⟩
    have hp4:p < S4.next:=Nat.lt_of_lt_of_le hp9 x4.1
    have y5:=(x9).trans x4
    simp only [A8,Bj,By,A6,Bl,A9,A7,A5,Bf,A4,Bd,Bc,A0,ofOpt,Bi,B0,Bg,Cd,Nat.reduceLT,Nat.reduceEqDiff,Aa,Ab,Ac,g5]
    exact ⟨_,_,rfl,.inr ⟨_,_,rfl⟩,y5,c4,hi4⟩
  ·rw [q9]
   simp only [Bu,Cr,Bt]
   exact ⟨_,rfl,x9⟩
end
section
end
end Go.Ax
noncomputable section
namespace Go.Ax
open Go.RowKit Go.Proofs
set_option maxRecDepth 100000
def Iu (ts:List Tk):Nat → List PD → Nat → PR (List PD)
 | 0,_,_=>.out
 | n + 1,l,i=>if (tk ts i).kind=1 then (Fi ts i).bind fun d j=>Iu ts n (l ++ [d]) j else .ok l i
def Ib (ts:List Tk) (n i:Nat):PR (List (List UInt8 × Nat)):=if (tk ts i).kind=1 then (G1 ts i).bind fun x j=>.ok [x] j else (C7 ts [[40]] i).bind fun _ j=>(G1 ts j).bind fun x j=>(C7 ts [[44]] j).bind fun _ j=>((G1 ts j).bind fun y m=>Gb ts (G1 ts) n [y] m).bind fun l m=>.ok (x :: l) m
theorem fV {α:Type} (ts:List Tk) (kid:Nat → PR α):∀ (n:Nat) (l:List α) (i:Nat) (r:List α) (j:Nat),Gb ts kid n l i=.ok r j → r.length ≤ l.length + n
 | 0,l,i,r,j,h=>by cases h
 | n + 1,l,i,r,j,h=>by
  unfold Gb at h
  split at h
  ·cases hk:kid (i + 1) with
   | out=>rw [hk] at h; cases h
   | bad a e=>rw [hk] at h; cases h
   | ok a m =>
    rw [hk,Cw] at h
    have:=fV ts kid n _ _ _ _ h
    rw [List.length_append] at this
    simp at this
    omega
  ·cases hk:C7 ts [[41]] i with
   | out=>rw [hk] at h; cases h
   | bad a e=>rw [hk] at h; cases h
   | ok a m =>
    rw [hk,Cw] at h
    cases h
    omega
theorem app55r {p k i:Nat} {S:St} {ts:List Tk} (h:Cur S p k ts i) (hp:p < S.next) (x:List UInt8 × Nat) {v:AV} {l:List (List UInt8 × Nat)} (hv:Ik 2 Gd v l) (hl:l.length ≤ 2000000) :
  ∃ S' w,Hk E1 S 55 55 (.sl 1 0 2 [Gd x]) v=some (w,S') ∧ Ik 2 Gd w (x :: l) ∧ Eb p S S' ∧ Cur S' p k ts i:=by
 obtain ⟨i',hi,hz0,hz1,hz2⟩:=G2 i59
 rw [app55]
 have same:∀ (w:AV),w=.sl 1 0 2 [Gd x] → Ik 2 Gd w [x]:=fun w e=>.inr ⟨1,0,e⟩
 rcases hv with ⟨rfl,rfl⟩ | ⟨tok,off,rfl⟩
 ·refine ⟨S,.sl 1 0 2 [Gd x],?_,same _ rfl,⟨Nat.le_refl _,fun _ _ _=>rfl⟩,h⟩
  simp [Fc,uP,hi,hz0,hz1,L6,rU,Value.cells]
 ·cases l with
  | nil =>
   refine ⟨S,.sl 1 0 2 [Gd x],?_,same _ rfl,⟨Nat.le_refl _,fun _ _ _=>rfl⟩,h⟩
   simp [Fc,uP,hi,hz0,hz1,L6,rU,Value.cells]
  | cons y r =>
   have hb1:(1 + (r.length + 1)) * 24 ≤ 140737488355328:=by simp at hl; omega
   have hb2:1 + (r.length + 1) ≤ 9223372036854775807:=by omega
   refine ⟨S.grown 1 ((Gd x :: Gd y :: r.map Gd).length * 2),.sl S.next 0 2 ((x :: y :: r).map Gd),?_,.inr ⟨_,_,rfl⟩,⟨Nat.le_succ _,fun id hid _=>?_⟩,?_⟩
   ·simp [Fc,uP,hi,hz0,hz1,hz2,L6,rU,Value.cells,N4,hb1,hb2]
   ·show (S.mem.set S.next _).get id=_
    rw [T.get_set,if_neg (by omega)]
   ·show (S.mem.set S.next _).get p=_
    rw [T.get_set,if_neg (by omega)]; exact h
section
variable {p k:Nat} {ts:List Tk} (hts:TokOk ts)
include hts
set_option maxHeartbeats 16000000 in
theorem Yn (h2p:2 ≤ p) (m:Nat) (kid:Nat → PR PD) (hkn:∀ i,kid i ≠ .out) (hF:∃ fn,E1.F m=some fn) (hkid:rI p k ts m cF kid) (n:Nat) (hn:n ≤ 1000000) (S:St) (i:Nat) (h:Cur S p k ts i) (hp:p < S.next) (hi:i < ts.length) (ho:Iw ts kid n i ≠ .out):WC E1 125 [.ptr p 0,L8 m p] S (Nt p k ts S (Ik 6 Gt) (Iw ts kid n i)):=by
 have eP:Iw ts kid n i=(C7 ts [[40]] i).bind fun _ j=>if (tk ts j).text ∈ [[41]] then .ok [] (j + 1) else (kid j).bind fun x m=>Gb ts kid n [x] m:=rfl
 rw [eP] at ho ⊢
 clear eP
 refine Dt Tryz.f125 (by kernel_rfl) (by kernel_rfl) (by kernel_rfl) (show (_:Nat) ≤ _ from by show (_:Nat) ≤ _; simp [Tryz.f125]) ?_
 obtain ⟨fn1,hf1⟩:=I9
 obtain ⟨fn2,hf2⟩:=Mn
 obtain ⟨fn3,hf3⟩:=fnOk156
 simp only [A8,Bj,A6,Bl,A9,A7,Bb,A5,A4,Bd,Bc,B7,A0,A1,Bm,Bz,ofOpt,Be,Bv,Bs,Nat.reduceLT,Nat.reduceAdd,Nat.reduceEqDiff,Aa,Ab,Ac,Ae,Aj,Ak,Tryz.f125,fp0,C2,hf2]
 refine WC.mono (Hh h hp hi hts 1 0 [[40]] (by decide) (by decide)) ?_
 cases hX1:C7 ts [[40]] i with
 | out=>exact absurd hX1 (Fm _ _ _)
 | bad a e =>
  rintro _ ⟨S1,rfl,x1⟩
  simp only [Bu,B1,Bt]
  exact ⟨_,rfl,x1⟩
 | ok a1 j1 =>
  rw [hX1] at ho; rw [Cw] at ho ⊢
  rintro _ ⟨_,S1,rfl,rfl,x1,c1,hi1⟩
  have hp1:p < S1.next:=Nat.lt_of_lt_of_le hp x1.1
  have y2:=x1
  by_cases hm:(tk ts j1).text ∈ [[41]]
  ·rw [if_pos hm] at ho ⊢
   simp only [A8,Bj,A6,Bl,A9,A7,Bb,A5,Bf,A4,Bd,Bc,A0,A1,Bm,Bz,ofOpt,Be,Bv,Bs,Nat.reduceLT,Nat.reduceEqDiff,Aa,Ab,Ac,Aj,Ak,fp0,C2,hf1]
   refine WC.mono (Js c1 hp1 hi1 hts 1 0 [[41]] (by decide) (by decide) hm) ?_
   rintro _ ⟨S3,rfl,x3,c3,hi3,hp3⟩
   have y4:=(y2).trans x3
   obtain ⟨S5,q5,x5,c5,bt,hp5⟩:=Ej c3 hp3 (tk ts j1)
   have y6:=(y4).trans x5
   simp only [Br,A8,Bj,Bp,By,A6,Co,Bl,A9,A7,Bh,Bb,Bk,A5,Bf,Cp,A4,Bd,Bc,A0,A1,Bm,Bz,ofOpt,ofOptS,Be,Bv,Bi,B0,Bg,Cd,Nat.reduceLT,Nat.reduceEqDiff,Aa,Ab,Ac,Ag,Ah,Aj,Ak,Fv,B8,hf3,q5]
   exact ⟨_,_,rfl,.inl ⟨rfl,rfl⟩,y6,c5,hi3⟩
  ·rw [if_neg hm] at ho ⊢
   simp only [A8,Bj,A6,Bl,A9,A7,Bb,A5,Bf,A4,Bd,Bc,A0,A1,Bm,Bz,ofOpt,Be,Bv,Bs,Nat.reduceLT,Nat.reduceEqDiff,Aa,Ab,Ac,Aj,Ak,fp0,C2,hf1]
   refine WC.mono (Kn c1 hp1 hi1 hts 1 0 [[41]] (by decide) hm) ?_
   rintro _ ⟨S7,rfl,x7,c7,hi7,hp7⟩
   have y8:=(y2).trans x7
   obtain ⟨S9,q9,x9,c9,bt,hp9⟩:=Ej c7 hp7 C1
   have y10:=(y8).trans x9
   simp only [Br,A8,Bj,Bp,By,A6,Co,Bl,A9,A7,Bh,Bb,Bk,A5,Bf,Cc,A4,Bd,Bc,A0,A1,Bm,Bz,ofOpt,ofOptS,Be,Bv,Bi,B0,Bg,Cd,Nat.reduceLT,Nat.reduceEqDiff,Aa,Ab,Ac,Ag,Ah,Aj,Ak,Fv,B8,hf3,q9]
   refine WC.mono (rest_p156 hts h2p m kid hkn hF hkid n hn _ _ c9 hp9 hi7 ho) ?_
   cases hX11:(kid j1).bind fun x m=>Gb ts kid n [x] m with
   | out=>exact absurd hX11 ho
   | bad a e =>
    rintro _ ⟨S11,rfl,x11⟩
    simp only [Bu,B1,Bt]
    exact ⟨_,rfl,y10.trans x11⟩
   | ok a j =>
    rintro _ ⟨v,S11,rfl,hv,x11,c11,hi11⟩
    simp only [By,A6,Bl,A9,A7,A5,Bf,A4,Bd,Bc,A0,A1,ofOpt,Bi,B0,Bg,Cd,Nat.reduceLT,Nat.reduceEqDiff,Aa,Ab,Ac]
    exact ⟨_,_,rfl,hv,y10.trans x11,c11,hi11⟩
set_option maxHeartbeats 16000000 in
theorem lefts_p (h2p:2 ≤ p) (n:Nat) (hn:n ≤ 1000000) (S:St) (i:Nat) (h:Cur S p k ts i) (hp:p < S.next) (hi:i < ts.length) (ho:Ib ts n i ≠ .out):WC E1 158 [.ptr p 0] S (Nt p k ts S (Ik 2 Gd) (Ib ts n i)):=by
 have eP:Ib ts n i=if (tk ts i).kind=1 then (G1 ts i).bind fun x j=>.ok [x] j else (C7 ts [[40]] i).bind fun _ j=>(G1 ts j).bind fun x j=>(C7 ts [[44]] j).bind fun _ j=>((G1 ts j).bind fun y m=>Gb ts (G1 ts) n [y] m).bind fun l m=>.ok (x :: l) m:=rfl
 rw [eP] at ho ⊢
 clear eP
 refine Dt Tryz.f158 (by kernel_rfl) (by kernel_rfl) (by kernel_rfl) (show (_:Nat) ≤ _ from by show (_:Nat) ≤ _; simp [Tryz.f158]) ?_
 obtain ⟨fn1,hf1⟩:=Oc
 obtain ⟨fn2,hf2⟩:=yE
 obtain ⟨fn3,hf3⟩:=Mn
 obtain ⟨fn4,hf4⟩:=yD
 simp only [A8,Bj,A6,Bl,A9,A7,Bb,A5,A4,Bd,Bc,B7,A0,A1,Bm,Bz,ofOpt,Be,Bv,Nat.reduceLT,Nat.reduceEqDiff,Aa,Ab,Ac,Ae,Aj,Ak,Tryz.f158,fp0,hf1]
 refine WC.mono (Vo _ p k ts i h hp hi) ?_
 rintro _ ⟨S1,rfl,k1⟩
 have x1:=k1.x p
 have c1:=h.keep hp k1
 have hp1:p < S1.next:=Nat.lt_of_lt_of_le hp x1.1
 have y2:=x1
 have e0:=Km hi
 by_cases h1:(tk ts i).kind=1
 ·rw [if_pos h1] at ho ⊢
  have n1:(((ts[i].kind:Nat):Int) == 1)=true:=by rw [← e0,h1]; rfl
  simp only [Br,A8,Bj,Bp,A6,Bl,A9,A7,Bb,A5,Bf,Cp,A4,Bd,Bc,A0,A1,Bm,Bz,ofOpt,Be,Bv,Bs,B5,Ci,Nat.reduceLT,Nat.reduceEqDiff,Aa,Ab,Ac,Aj,Ak,Am,fp0,C2,hf2,hf3,Jn,Du,n1]
  refine WC.mono (tM hts _ _ c1 hp1 hi) ?_
  cases hX3:G1 ts i with
  | out=>exact absurd hX3 (cB _ _)
  | bad a e =>
   rintro _ ⟨S3,rfl,x3⟩
   simp only [Bu,B1,Bt]
   exact ⟨_,rfl,y2.trans x3⟩
  | ok a3 j3 =>
   rintro _ ⟨_,S3,rfl,rfl,x3,c3,hi3⟩
   have hp3:p < S3.next:=Nat.lt_of_lt_of_le hp1 x3.1
   have y4:=(y2).trans x3
   rw [Cw]
   have hda:Gd a3=.agg (Ho a3):=rfl
   have l5:=Zc (Ho a3) rfl
   simp only [By,A6,Co,Bl,A9,A7,A5,Bf,A4,Bd,Bc,A0,A1,ofOpt,Bv,Bs,Bi,B0,Bg,Cd,Nat.reduceLT,Nat.reduceEqDiff,Aa,Ab,Ac,hda,l5]
   exact ⟨_,_,rfl,.inr ⟨_,_,rfl⟩,y4,c3,hi3⟩
 ·rw [if_neg h1] at ho ⊢
  have n1:(((ts[i].kind:Nat):Int) == 1)=false:=by rw [← e0,beq_eq_false_iff_ne]; omega
  simp only [Br,A8,Bj,Bp,A6,Bl,A9,A7,Bb,A5,Bf,Cc,A4,Bd,Bc,A0,A1,Bm,Bz,ofOpt,Be,Bv,Bs,B5,Ci,Nat.reduceLT,Nat.reduceEqDiff,Aa,Ab,Ac,Aj,Ak,Am,fp0,C2,hf2,hf3,Jn,Du,n1]
  refine WC.mono (Hh c1 hp1 hi hts 1 0 [[40]] (by decide) (by decide)) ?_
  cases hX6:C7 ts [[40]] i with
  | out=>exact absurd hX6 (Fm _ _ _)
  | bad a e =>
   rintro _ ⟨S6,rfl,x6⟩
   simp only [Bu,B1,Bt]
   exact ⟨_,rfl,y2.trans x6⟩
  | ok a6 j6 =>
   rw [hX6] at ho; rw [Cw] at ho ⊢
   rintro _ ⟨_,S6,rfl,rfl,x6,c6,hi6⟩
   have hp6:p < S6.next:=Nat.lt_of_lt_of_le hp1 x6.1
   have y7:=(y2).trans x6
   simp only [A8,Bj,A6,Bl,A9,A7,Bb,A5,Bf,A4,Bd,Bc,A0,A1,Bm,Bz,ofOpt,Nat.reduceLT,Nat.reduceEqDiff,Aa,Ab,Ac,Aj,Ak,hf2]
   refine WC.mono (tM hts _ _ c6 hp6 hi6) ?_
   cases hX8:G1 ts j6 with
   | out=>exact absurd hX8 (cB _ _)
   | bad a e =>
    rintro _ ⟨S8,rfl,x8⟩
    simp only [Bu,B1,Bt]
    exact ⟨_,rfl,y7.trans x8⟩
   | ok a8 j8 =>
    rw [hX8] at ho; rw [Cw] at ho ⊢
    rintro _ ⟨_,S8,rfl,rfl,x8,c8,hi8⟩
    have hp8:p < S8.next:=Nat.lt_of_lt_of_le hp6 x8.1
    have y9:=(y7).trans x8
    have hda:Gd a8=.agg (Ho a8):=rfl
    obtain ⟨S10,q10,x10,c10,bf,hp10⟩:=zD nB mN rfl c8 hp8 (xs:=Ho a8) rfl
    have y11:=(y9).trans x10
    simp only [A8,Bj,A6,Bl,A9,A7,Bh,Bb,Bk,A5,Bf,A4,Bd,Bc,A0,A1,Bm,Bz,ofOpt,ofOptS,Be,Bv,Bs,Nat.reduceLT,Nat.reduceEqDiff,Aa,Ab,Ac,Aj,Ak,fp0,C2,hf3,alo59,hda,q10]
    refine WC.mono (Hh c10 hp10 hi8 hts 1 0 [[44]] (by decide) (by decide)) ?_
    cases hX12:C7 ts [[44]] j8 with
    | out=>exact absurd hX12 (Fm _ _ _)
    | bad a e =>
     rintro _ ⟨S12,rfl,x12⟩
     simp only [Bu,B1,Bt]
     exact ⟨_,rfl,y11.trans x12⟩
    | ok a12 j12 =>
     rw [hX12] at ho; rw [Cw] at ho ⊢
     rintro _ ⟨_,S12,rfl,rfl,x12,c12,hi12⟩
     have hp12:p < S12.next:=Nat.lt_of_lt_of_le hp10 x12.1
     have y13:=(y11).trans x12
     have bf_13:=bf.keep x12
     have l14:=ldG ag59 nB bf_13.get rfl
     have l15:=Zc (Ho a8) rfl
     simp only [Cu,Bj,A6,Bl,A5,Bf,Nat.reduceLT,Ac]
     refine Jj [(0,true),(1,true),(2,true),(3,true),(4,true),(5,true),(0,false),(6,true),(7,true)] (by kernel_rfl) (by kernel_rfl) ?_
     simp only [A4,Bd,Bc,A0,A1,Bm,Bz,ofOpt,Bv,Bs,Nat.reduceLT,Nat.reduceEqDiff,Aa,Ab,Ac,Af,Ag,Ah,Aj,Ak,Am,Dz,C8,C5,Cs,Hs,hf4,l14,l15]
     have hb2:=Fe ho
     refine WC.mono (rest_p181 hts h2p 180 _ (cB ts) yE (tM hts) n hn _ _ c12 hp12 hi12 hb2) ?_
     cases hX:(G1 ts j12).bind fun y m=>Gb ts (G1 ts) n [y] m with
     | out=>exact absurd hX hb2
     | bad a e =>
      rintro _ ⟨S99,rfl,x99⟩
      simp only [Bu,Bt,El,E4]
      exact ⟨_,rfl,y13.trans x99⟩
     | ok l j =>
      rw [Cw]
      rintro _ ⟨v,S99,rfl,hv,x99,c99,hi99⟩
      have hp99:p < S99.next:=Nat.lt_of_lt_of_le hp12 x99.1
      have y17:=(y13).trans x99
      have bf_17:=bf_13.keep x99
      have hlen:l.length ≤ 2000000:=by
       cases hk:G1 ts j12 with
       | out=>rw [hk] at hX; cases hX
       | bad a e=>rw [hk] at hX; cases hX
       | ok a m=>rw [hk,Cw] at hX; have:=fV _ _ _ _ _ _ _ hX; simp at this; omega
      obtain ⟨S98,w98,ha98,hw98,x98,c98⟩:=app55r c99 hp99 a8 hv hlen
      rw [hda] at ha98
      have l18:=ldG ag59 nB bf_17.get rfl
      have bq:Hi (.sl 1 0 2 [.agg (Ho a8)]) (.sl 1 0 2 [.agg (Ho a8)])=true:=by simp [Hi,N0,Ho,Cj,Du,eqS,Kc]
      have bq2:Hi (.agg (Ho a8)) (.agg (Ho a8))=true:=by simp [Hi,N0,Ho,Cj,Du,eqS,Kc]
      simp only [By,A6,A4,Bd,Bc,A0,A1,Bm,ofOpt,ofOptS,Bv,Bi,B0,Bg,Cd,Nat.reduceLT,Nat.reduceEqDiff,Aa,Ab,Ac,Fw,Dz,Ig,C8,Cs,Dm,De,Dy,Ei,l18,bq2,ha98]
      exact ⟨_,_,rfl,hw98,y17.trans x98,c98,hi99⟩
omit hts
noncomputable def mU:Code:=match Tryz.f127.body with
 | some (.seq _ (.seq _ (.seq (.block _ (.loop c)) _)))=>c
 | _=>.skip
def LoopVars (p k:Nat) (ts:List Tk) (S0:St) (x:PR (List PD)) (r:O):Prop :=
 (∃ t' S' tok l i',r=.out (.exit 0) ⟨t',[]⟩ S' ∧ t'.get 3=some (.sl tok 0 6 (l.map Gt)) ∧ Eb p S0 S' ∧ Cur S' p k ts i' ∧ i' < ts.length ∧ p < S'.next ∧ x=.ok l i') ∨
 (∃ t' S' a e,r=.out (.pan (V6 a e)) ⟨t',[]⟩ S' ∧ Eb p S0 S' ∧ x=.bad a e)
include hts
set_option maxHeartbeats 16000000 in
theorem eY (h2p:2 ≤ p) (S0:St) (hp0:p < S0.next):∀ (n:Nat) (l:List PD) (i:Nat) (t:T AV) (S:St) (tok:Nat),Iu ts n l i ≠ .out → n + l.length ≤ 2000000 →
  t.get 0=some (.ptr p 0) → t.get 3=some (.sl tok 0 6 (l.map Gt)) → Cur S p k ts i → p < S.next → i < ts.length → Sw 6 S0.next S tok (l.map Gt) → Eb p S0 S →
  WX E1 19 (.loop mU) ⟨t,[]⟩ S (LoopVars p k ts S0 (Iu ts n l i))
 | 0,l,i,t,S,tok,ho,hnl,h0,h3,h,hp,hi,hr,hx=>absurd rfl ho
 | n + 1,l,i,t,S,tok,ho,hnl,h0,h3,h,hp,hi,hr,hx=>by
  refine E9 (Em ?_)
  obtain ⟨fn1,hf1⟩:=Oc
  obtain ⟨fn2,hf2⟩:=yK
  have eP:Iu ts (n + 1) l i=if (tk ts i).kind=1 then (Fi ts i).bind fun d j=>Iu ts n (l ++ [d]) j else .ok l i:=rfl
  rw [eP] at ho ⊢
  clear eP
  have e0:=Km hi
  simp only [A8,Bj,A9,A7,Bb,A5,A4,Bd,Bc,A0,Bm,Bz,ofOpt,Bv,Nat.reduceLT,Nat.reduceEqDiff,Aa,Ab,Ac,Aj,Ak,Tryz.f127,fp0,hf1,h0,mU]
  refine WC.mono (Vo _ p k ts i h hp hi) ?_
  rintro _ ⟨S1,rfl,k1⟩
  have x1:=k1.x p
  have c1:=h.keep hp k1
  have hp1:p < S1.next:=Nat.lt_of_lt_of_le hp x1.1
  have y2:=(hx).trans x1
  by_cases h1:(tk ts i).kind=1
  ·rw [if_pos h1] at ho ⊢
   have n1:(((ts[i].kind:Nat):Int) == 1)=true:=by rw [← e0,h1]; rfl
   simp only [B9,Br,A8,Bp,B3,Dk,A6,Cg,Bl,A9,A7,Bb,A5,Bf,Cp,A4,Bd,Bc,A0,Bm,Bz,ofOpt,Be,Bv,B5,Ci,Nat.reduceLT,Nat.reduceEqDiff,Aa,Ab,Ac,Aj,Ak,Am,hf2,h0,h3,Jn,Du,n1]
   refine WC.mono (iT hts _ _ c1 hp1 hi) ?_
   cases hX3:Fi ts i with
   | out=>exact absurd hX3 (Yw _ _)
   | bad a e =>
    rintro _ ⟨S3,rfl,x3⟩
    simp only [C4,Cr,B1]
    exact .inr ⟨_,_,_,_,rfl,y2.trans x3,rfl⟩
   | ok a3 j3 =>
    rw [hX3] at ho; rw [Cw] at ho ⊢
    rintro _ ⟨_,S3,rfl,rfl,x3,c3,hi3⟩
    have hp3:p < S3.next:=Nat.lt_of_lt_of_le hp1 x3.1
    have y4:=(y2).trans x3
    have hda:Gt a3=.agg (Ge a3):=rfl
    have l5:=Zd (Ge a3) rfl
    have hr2:Sw 6 S0.next S3 tok (l.map Gt):=hr.keep ((x1).trans x3:Eb p S S3) hp0
    have hle:=y4.1
    obtain ⟨S6,a6,r6,n6,k6⟩:=push46 hr2 (by omega) hle (Ge a3) rfl (by rw [List.length_map]; omega)
    have z6:Eb p S0 S6:=⟨Nat.le_trans hle n6,fun id hid hn=>(k6 id hid).trans (y4.2 id hid hn)⟩
    have cc6:Cur S6 p k ts j3:=(k6 p hp0).trans c3
    have em:l.map Gt ++ [AV.agg (Ge a3)]=(l ++ [a3]).map Gt:=by rw [List.map_append]; rfl
    rw [em] at a6 r6
    simp only [B4,Bw,Bl,A9,A7,A5,Bf,A4,Bd,Bc,A0,Bm,ofOpt,ofOptS,Bv,Bs,Nat.reduceLT,Nat.reduceEqDiff,Aa,Ab,Ac,hda,l5,a6]
    exact eY h2p S0 hp0 n _ _ _ _ _ ho (by rw [List.length_append]; simp; omega) (by simp [T.get_set,h0]) (by simp [T.get_set]) cc6 (by omega) hi3 r6 z6
  ·rw [if_neg h1] at ho ⊢
   have n1:(((ts[i].kind:Nat):Int) == 1)=false:=by rw [← e0,beq_eq_false_iff_ne]; omega
   simp only [B9,Br,A8,Bp,B3,Dk,A6,Cg,Bl,A9,A7,Bb,A5,Bf,Cc,A4,Bd,Bc,A0,Bm,Bz,ofOpt,Be,Bv,B5,Ci,Nat.reduceLT,Nat.reduceEqDiff,Aa,Ab,Ac,Aj,Ak,Am,hf2,h0,h3,Jn,Du,n1]
   exact .inl ⟨_,_,tok,l,i,rfl,by simp [T.get_set,h3],y2,c1,hi,hp1,rfl⟩
set_option maxHeartbeats 16000000 in
theorem vars_p (h2p:2 ≤ p) (n:Nat) (hn:n ≤ 1000000) (S:St) (i:Nat) (h:Cur S p k ts i) (hp:p < S.next) (hi:i < ts.length) (ho:((Fi ts i).bind fun x j=>Iu ts n [x] j) ≠ .out):WC E1 127 [.ptr p 0] S (Nt p k ts S (Ik 6 Gt) ((Fi ts i).bind fun x j=>Iu ts n [x] j)):=by
 refine Dt Tryz.f127 (by kernel_rfl) (by kernel_rfl) (by kernel_rfl) (show (_:Nat) ≤ _ from by show (_:Nat) ≤ _; simp [Tryz.f127]) ?_
 obtain ⟨fn2,hf2⟩:=yK
 simp only [A8,Bj,A6,Bl,A9,A7,Bb,A5,A4,Bd,Bc,B7,A0,A1,Bm,Bz,ofOpt,Be,Nat.reduceLT,Nat.reduceEqDiff,Aa,Ab,Ac,Ae,Aj,Ak,Tryz.f127,hf2]
 refine WC.mono (iT hts _ _ h hp hi) ?_
 cases hX1:Fi ts i with
 | out=>exact absurd hX1 (Yw _ _)
 | bad a e =>
  rintro _ ⟨S1,rfl,x1⟩
  simp only [Bu,B1,Bt]
  exact ⟨_,rfl,x1⟩
 | ok a1 j1 =>
  rw [hX1] at ho; rw [Cw] at ho ⊢
  rintro _ ⟨_,S1,rfl,rfl,x1,c1,hi1⟩
  have hp1:p < S1.next:=Nat.lt_of_lt_of_le hp x1.1
  have y2:=x1
  have hda:Gt a1=.agg (Ge a1):=rfl
  have l3:=Zd (Ge a1) rfl
  simp only [Bj,B3,D3,A6,Bl,A9,A7,A5,Bf,A4,Bd,Bc,A0,A1,ofOpt,Bv,Bs,Nat.reduceLT,Nat.reduceEqDiff,Aa,Ab,Ac,hda,l3]
  refine WX.mono (eY hts h2p S hp n [a1] j1 _ _ 1 ho (by simp; omega) (by simp [T.get_set]) (by simp [T.get_set,hda]) c1 hp1 hi1 (.inl rfl) y2) ?_
  rintro _ (⟨t9,S9,tok9,l9,i9,rfl,g3,x9,c9,hi9,hp9,e9⟩ | ⟨t9,S9,a9,e9,rfl,x9,q9⟩)
  ·rw [e9]
   simp only [A8,Bj,By,A6,Cg,Ch,Bl,A9,A7,A5,A4,Bd,Bc,A0,ofOpt,Bi,B0,Bg,Cd,Nat.reduceLT,Nat.reduceEqDiff,Aa,Ab,Ac,g3]
   exact ⟨_,_,rfl,.inr ⟨_,_,rfl⟩,x9,c9,hi9⟩
  ·rw [q9]
   simp only [Bu,Cr,Bt]
   exact ⟨_,rfl,x9⟩
end
end Go.Ax
