/- Ph -/
import Derived.Test.YtjgknelmjdallaaGreatDoorTdPg
set_option linter.unusedVariables false
set_option linter.unusedSimpArgs false
set_option maxHeartbeats 16000000
noncomputable section
namespace Go.Ax
open Go.RowKit Go.Proofs
set_option maxRecDepth 100000
theorem fnOk125:∃ fn,E1.F 125=some fn:=Option.isSome_iff_exists.1 (by kernel_rfl)
theorem fnOk126:∃ fn,E1.F 126=some fn:=Option.isSome_iff_exists.1 (by kernel_rfl)
theorem fnOk127:∃ fn,E1.F 127=some fn:=Option.isSome_iff_exists.1 (by kernel_rfl)
theorem fnOk156:∃ fn,E1.F 156=some fn:=Option.isSome_iff_exists.1 (by kernel_rfl)
theorem fnOk157:∃ fn,E1.F 157=some fn:=Option.isSome_iff_exists.1 (by kernel_rfl)
theorem fnOk158:∃ fn,E1.F 158=some fn:=Option.isSome_iff_exists.1 (by kernel_rfl)
theorem fnOk180:∃ fn,E1.F 180=some fn:=Option.isSome_iff_exists.1 (by kernel_rfl)
theorem fnOk181:∃ fn,E1.F 181=some fn:=Option.isSome_iff_exists.1 (by kernel_rfl)
theorem A4 {E:Env} {n:Nat} {f:Fr} {S:St} {Q:O → Prop} {b:Code}:yT E n b Q (.out .normal f S)=W E n b f S Q:=id rfl
theorem Be {E:Env} {n:Nat} {f:Fr} {S:St} {Q:O → Prop} {ops:Array Oper}:WL E n ops [] f S Q=Q (.out .normal f S):=id rfl
theorem D9 {E:Env} {n:Nat} {f:Fr} {S:St} {Q:O → Prop} {ops:Array Oper}:WR E n ops [] f S Q=Q (.out .normal f S):=id rfl
section
variable {S:St} {p k i T n:Nat} {ts:List Tk}
theorem stG (hs:Fu Tryz.prog T=some n) {id:Nat} {cs ys:List AV} (h:S.mem.get id=some (.box cs)) (hl:cs.length=n) (hy:ys.length=n):Dt Tryz.prog S T (.ptr id 0) (.agg ys)=some (S.put id ys):=by
 have h2:(AV.agg ys).noTup=true:=rfl
 simp [Dt,h,hs,h2,AV.cells,hl,hy,St.put,List.drop_eq_nil_of_le]
theorem ldG (ha:Fo Tryz.prog T=some true) (hs:Fu Tryz.prog T=some n) {id:Nat} {cs:List AV} (h:S.mem.get id=some (.box cs)) (hl:cs.length=n):Cd Tryz.prog S T (.ptr id 0)=some (.agg cs):=by
 have e:cs.take n=cs:=List.take_of_length_le (by omega)
 simp [Cd,D0,h,ha,hs,hl,e]
theorem openB (Z:List AV) (h:Cur S p k ts i) (hp:p < S.next):D7 p S (S.newBox Z) ∧ Cur (S.newBox Z) p k ts i ∧ Has p (S.newBox Z) S.next Z ∧ p < (S.newBox Z).next :=
 ⟨Lh S Z,h.new hp Z,⟨Cv S _,Nat.lt_succ_self _,by omega⟩,Nat.lt_succ_of_lt hp⟩
theorem boxG2 (hs:Fu Tryz.prog T=some n) (Z:List AV) (hz:Z.length=n) (h:Cur S p k ts i) (hp:p < S.next) {xs:List AV} (hx:xs.length=n):∃ S',Dt Tryz.prog (S.newBox Z) T (.ptr S.next 0) (.agg xs)=some S' ∧ D7 p S S' ∧ Cur S' p k ts i ∧ Has p S' S.next xs ∧ p < S'.next :=
 ⟨_,stG hs (Cv S _) hz hx,Jw (Lh S _) (Nat.le_refl _) _,(h.new hp _).put (by omega) _,⟨Ed _ _ _,Nat.lt_succ_self _,by omega⟩,Nat.lt_succ_of_lt hp⟩
theorem dJ (ha:Fo Tryz.prog T=some true) (hs:Fu Tryz.prog T=some n) {S0:St} {b:Nat} {cs:List AV} (h:Cur S p k ts i) (hb:Has p S b cs) (hl:cs.length=n) (hle:S0.next ≤ b) (x:D7 p S0 S) {xs:List AV} (hx:xs.length=n) :
  Dt Tryz.prog S T (.ptr b 0) (.agg xs)=some (S.put b xs) ∧ Cd Tryz.prog (S.put b xs) T (.ptr b 0)=some (.agg xs) ∧ D7 p S0 (S.put b xs) ∧ Cur (S.put b xs) p k ts i :=
 ⟨stG hs hb.get hl hx,ldG ha hs (Ed _ _ _) hx,Jw x hle _,h.put (fun e=>hb.ne e.symm) _⟩
end
theorem ag54:Fo Tryz.prog 54=some true:=by kernel_rfl
theorem fO:Fu Tryz.prog 54=some 6:=by kernel_rfl
def J0:List AV:=[Bt [],Dq 0,.v (.bool false),.v (.bool false),Bt [],.v (.bool false)]
theorem T3 (S:St):Js Tryz.prog S 54=some (.ptr S.next 0,S.newBox J0):=by kernel_rfl
theorem ag59:Fo Tryz.prog 59=some true:=by kernel_rfl
theorem sz59:Fu Tryz.prog 59=some 2:=by kernel_rfl
def Z2:List AV:=[Bt [],Dq 0]
theorem alo59 (S:St):Js Tryz.prog S 59=some (.ptr S.next 0,S.newBox Z2):=by kernel_rfl
structure PD where
 name:List UInt8
 pos:Nat
 bool:Bool
 fut:Bool
 clock:List UInt8
 off:Bool
def Eu (d:PD):List AV:=[Bt d.name,Dq d.pos,.v (.bool d.bool),.v (.bool d.fut),Bt d.clock,.v (.bool d.off)]
def Fq (d:PD):AV:=.agg (Eu d)
def qL (v:AV) (d:PD):Prop:=v=Fq d
def Ib (d:List UInt8 × Nat):List AV:=[Bt d.1,Dq d.2]
def Hr (d:List UInt8 × Nat):AV:=.agg (Ib d)
def isLeft (v:AV) (d:List UInt8 × Nat):Prop:=v=Hr d
def I6 (ts:List Tk) (i:Nat):PR PD:=(Gz ts 1 i).bind fun t j=>(Ef ts [[58]] j).bind fun _ j=>if (tk ts j).text ∈ [[102,117,116,117,114,101]] then (Ef ts [[105,110,116],[98,111,111,108]] (j + 1)).bind fun u m=>.ok ⟨t.text,t.pos,decide (u.text=[98,111,111,108]),true,[],false⟩ m else (Ef ts [[105,110,116],[98,111,111,108]] j).bind fun u m=>.ok ⟨t.text,t.pos,decide (u.text=[98,111,111,108]),false,[],false⟩ m
def Gs (ts:List Tk) (i:Nat):PR PD:=(I6 ts i).bind fun d j=>if (tk ts j).text ∈ [[119,104,101,110]] then (I5 ts (j + 1)).bind fun c j=>(Ef ts [[59]] j).bind fun _ j=>.ok { d with clock:=c.1,off:=c.2 } j else (Ef ts [[59]] j).bind fun _ j=>.ok d j
def Ix (ts:List Tk) (i:Nat):PR (List UInt8 × Nat):=(Gz ts 1 i).bind fun t j=>.ok (t.text,t.pos) j
theorem qF (ts:List Tk) (i:Nat):Ix ts i ≠ .out:=by
 unfold Ix
 cases h:Gz ts 1 i with
 | out=>exact absurd h (Nj _ _ _)
 | bad a e=>exact fun e=>by cases e
 | ok a j=>exact fun e=>by cases e
theorem eF (ts:List Tk) (i:Nat):I6 ts i ≠ .out:=by
 unfold I6
 cases h:Gz ts 1 i with
 | out=>exact absurd h (Nj _ _ _)
 | bad a e=>exact fun e=>by cases e
 | ok a j =>
  rw [D2]
  cases h:Ef ts [[58]] j with
  | out=>exact absurd h (G3 _ _ _)
  | bad a e=>exact fun e=>by cases e
  | ok a j =>
   rw [D2]
   split
   ·cases h:Ef ts [[105,110,116],[98,111,111,108]] (j + 1) with
    | out=>exact absurd h (G3 _ _ _)
    | bad a e=>exact fun e=>by cases e
    | ok a j=>exact fun e=>by cases e
   ·cases h:Ef ts [[105,110,116],[98,111,111,108]] j with
    | out=>exact absurd h (G3 _ _ _)
    | bad a e=>exact fun e=>by cases e
    | ok a j=>exact fun e=>by cases e
theorem xJ (ts:List Tk) (i:Nat):I5 ts i ≠ .out:=by
 unfold I5
 split
 ·cases h:Gz ts 1 (i + 1) with
  | out=>exact absurd h (Nj _ _ _)
  | bad a e=>exact fun e=>by cases e
  | ok a j=>exact fun e=>by cases e
 ·cases h:Gz ts 1 i with
  | out=>exact absurd h (Nj _ _ _)
  | bad a e=>exact fun e=>by cases e
  | ok a j=>exact fun e=>by cases e
theorem kI (ts:List Tk) (i:Nat):Gs ts i ≠ .out:=by
 unfold Gs
 cases h:I6 ts i with
 | out=>exact absurd h (eF _ _)
 | bad a e=>exact fun e=>by cases e
 | ok a j =>
  rw [D2]
  split
  ·cases h:I5 ts (j + 1) with
   | out=>exact absurd h (xJ _ _)
   | bad a e=>exact fun e=>by cases e
   | ok a j =>
    rw [D2]
    cases h:Ef ts [[59]] j with
    | out=>exact absurd h (G3 _ _ _)
    | bad a e=>exact fun e=>by cases e
    | ok a j=>exact fun e=>by cases e
  ·cases h:Ef ts [[59]] j with
   | out=>exact absurd h (G3 _ _ _)
   | bad a e=>exact fun e=>by cases e
   | ok a j=>exact fun e=>by cases e
theorem b52 (x y:Bool):Gc Tryz.prog 52 [(0,.v (.bool x)),(1,.v (.bool y))]=some (.agg [.v (.bool x),.v (.bool y)]):=by kernel_rfl
theorem b54 (s:List UInt8) (a:Nat) (x y:Bool):Gc Tryz.prog 54 [(0,.v (.string ⟨⟨s⟩⟩)),(1,.v (.int .i64 (a:Int))),(2,.agg [.v (.bool x),.v (.bool y)])]=some (.agg (Eu ⟨s,a,x,y,[],false⟩)):=by kernel_rfl
theorem b59 (s:List UInt8) (a:Nat):Gc Tryz.prog 59 [(0,.v (.string ⟨⟨s⟩⟩)),(1,.v (.int .i64 (a:Int)))]=some (.agg (Ib (s,a))):=by kernel_rfl
def ConR {α:Type} (p k:Nat) (ts:List Tk) (fid:Nat) (Rep:AV → α → Prop) (x:Nat → PR α):Prop:=∀ S i,Cur S p k ts i → p < S.next → i < ts.length → WC E1 fid [.ptr p 0] S (Re p k ts S Rep (x i))
theorem fd54_3 (b:Nat):C2 Tryz.prog 54 (.ptr b 0) 3=some (.ptr b 4):=by kernel_rfl
theorem fd54_4 (b:Nat):C2 Tryz.prog 54 (.ptr b 0) 4=some (.ptr b 5):=by kernel_rfl
theorem st54_clock {S:St} {id:Nat} {d:PD} (h:S.mem.get id=some (.box (Eu d))) (s:List UInt8):Dt Tryz.prog S 9 (.ptr id 4) (Bt s)=some (S.put id (Eu { d with clock:=s })):=by
 have h2:(Bt s).noTup=true:=rfl
 have h3:(Bt s).cells=[Bt s]:=rfl
 simp [Dt,h,s9,h2,h3,St.put,Eu]
theorem st54_off {S:St} {id:Nat} {d:PD} (h:S.mem.get id=some (.box (Eu d))) (o:Bool):Dt Tryz.prog S 4 (.ptr id 5) (.v (.bool o))=some (S.put id (Eu { d with off:=o })):=by
 have h2:(AV.v (.bool o)).noTup=true:=rfl
 have s4:Fu Tryz.prog 4=some 1:=by kernel_rfl
 simp [Dt,h,s4,h2,AV.cells,St.put,Eu]
section
variable {p k:Nat} {ts:List Tk} (hts:TokOk ts)
include hts
theorem left_p:ConR p k ts 180 isLeft (Ix ts):=fun S i h hp hi=>by
 obtain ⟨fn1,hf1⟩:=R2
 refine Dv Tryz.f180 (by kernel_rfl) (by kernel_rfl) (by kernel_rfl) (by show (_:Nat) ≤ _;simp [Tryz.f180]) ?_
 unfold Ix
 obtain ⟨x1,c1,br,hp1⟩:=openB Z2 h hp
 have y2:=x1
 simp only [A6,Bk,A4,Be,A7,Bf,Bh,Bd,A5,Bc,Ba,Ce,A0,A1,Bm,B5,ofOpt,ofOptS,Bb,Cp,Nat.reduceLT,Nat.reduceEqDiff,Aa,Ab,Ac,Ae,Aj,Ak,Tryz.f180,fp0,hf1,alo59]
 refine WC.mono (Wj c1 hp1 hi hts 1 (by decide)) ?_
 cases hX3:Gz ts 1 i with
 | out=>exact absurd hX3 (Nj _ _ _)
 | bad a e =>
  rintro _ ⟨S3,rfl,x3⟩
  simp only [Cl,Cq,Cg]
  exact ⟨_,rfl,y2.trans x3⟩
 | ok a3 j3 =>
  rintro _ ⟨_,S3,rfl,rfl,x3,c3,hi3⟩
  have hp3:p < S3.next:=Nat.lt_of_lt_of_le hp1 x3.1
  have y4:=(y2).trans x3
  have br_4:=br.keep x3
  rw [D2]
  obtain ⟨S5,q5,x5,c5,bt,hp5⟩:=Fs c3 hp3 a3
  have y6:=(y4).trans x5
  have br_6:=br_4.keep x5
  have lp:=bt.pos
  have lt:=bt.text
  simp only [A6,Bk,A4,Be,A7,Bf,Br,Bu,Bd,Bp,A5,Bc,Ba,A0,A1,ofOpt,ofOptS,Cp,Bz,Nat.reduceLT,Nat.reduceEqDiff,Aa,Ab,Ac,G9,q5,fd1,fa2,lp,lt,b59]
  obtain ⟨g7,h7,gx,gc⟩:=dJ ag59 sz59 (S0:=S) c5 br_6 rfl (Nat.le_refl _) y6 (xs:=(Ib (a3.text,a3.pos))) rfl
  simp only [B1,A4,Be,Br,Bu,A0,A1,Cp,Bi,B0,Bg,Cs,Nat.reduceEqDiff,Aa,Ab,g7,h7]
  exact ⟨_,_,rfl,rfl,gx,gc,hi3⟩
theorem decl_p:ConR p k ts 126 qL (I6 ts):=fun S i h hp hi=>by
 obtain ⟨fn1,hf1⟩:=R2
 obtain ⟨fn2,hf2⟩:=Lj
 obtain ⟨fn3,hf3⟩:=Qa
 refine Dv Tryz.f126 (by kernel_rfl) (by kernel_rfl) (by kernel_rfl) (by show (_:Nat) ≤ _;simp [Tryz.f126]) ?_
 unfold I6
 obtain ⟨x1,c1,br,hp1⟩:=openB J0 h hp
 have y2:=x1
 simp only [A6,Bk,A4,Be,A7,Bf,Bh,Bd,A5,Bc,Ba,Ce,A0,A1,Bm,B5,ofOpt,ofOptS,Bb,Cp,Nat.reduceLT,Nat.reduceEqDiff,Aa,Ab,Ac,Ae,Aj,Ak,Tryz.f126,fp0,hf1,T3]
 refine WC.mono (Wj c1 hp1 hi hts 1 (by decide)) ?_
 cases hX3:Gz ts 1 i with
 | out=>exact absurd hX3 (Nj _ _ _)
 | bad a e =>
  rintro _ ⟨S3,rfl,x3⟩
  simp only [Cl,Cq,Cg]
  exact ⟨_,rfl,y2.trans x3⟩
 | ok a3 j3 =>
  rintro _ ⟨_,S3,rfl,rfl,x3,c3,hi3⟩
  have hp3:p < S3.next:=Nat.lt_of_lt_of_le hp1 x3.1
  have y4:=(y2).trans x3
  have br_4:=br.keep x3
  rw [D2]
  obtain ⟨S5,q5,x5,c5,bt,hp5⟩:=Fs c3 hp3 a3
  have y6:=(y4).trans x5
  have br_6:=br_4.keep x5
  simp only [A6,Bk,A4,Be,A7,Bf,Br,Bh,Bu,Bd,Bp,A5,Bc,Ba,A0,A1,Bm,B5,ofOpt,ofOptS,Bb,Cp,Bz,Nat.reduceLT,Nat.reduceEqDiff,Aa,Ab,Ac,Aj,Ak,G9,fp0,Ec,hf3,q5]
  refine WC.mono (Jc c5 hp5 hi3 hts 1 0 [[58]] (by decide) (by decide)) ?_
  cases hX7:Ef ts [[58]] j3 with
  | out=>exact absurd hX7 (G3 _ _ _)
  | bad a e =>
   rintro _ ⟨S7,rfl,x7⟩
   simp only [Cl,Cq,Cg]
   exact ⟨_,rfl,y6.trans x7⟩
  | ok a7 j7 =>
   rintro _ ⟨_,S7,rfl,rfl,x7,c7,hi7⟩
   have hp7:p < S7.next:=Nat.lt_of_lt_of_le hp5 x7.1
   have y8:=(y6).trans x7
   have br_8:=br_6.keep x7
   have bt_8:=bt.keep x7
   rw [D2]
   by_cases hm:(tk ts j7).text ∈ [[102,117,116,117,114,101]]
   ·rw [if_pos hm]
    simp only [A6,Bk,A4,Be,A7,Bf,Bh,Bd,Bp,A5,Bc,Ba,A0,A1,Bm,B5,ofOpt,Bb,Cp,Bz,Nat.reduceLT,Nat.reduceEqDiff,Aa,Ab,Ac,Aj,Ak,fp0,Ec,hf2]
    refine WC.mono (L4 c7 hp7 hi7 hts 1 0 [[102,117,116,117,114,101]] (by decide) (by decide) hm) ?_
    rintro _ ⟨S9,rfl,x9,c9,hi9,hp9⟩
    have y10:=(y8).trans x9
    have br_10:=br_8.keep x9
    have bt_10:=bt_8.keep x9
    obtain ⟨S11,q11,x11,c11,bf,hp11⟩:=Fs c9 hp9 (tk ts j7)
    have y12:=(y10).trans x11
    have br_12:=br_10.keep x11
    have bt_12:=bt_10.keep x11
    simp only [A6,Bk,A4,Be,A7,Bf,Br,Bh,Bu,Bd,Bp,A5,Bc,Ba,A0,A1,Bm,B5,ofOpt,ofOptS,Bb,Cp,Bz,Nat.reduceLT,Nat.reduceEqDiff,Aa,Ab,Ac,Ag,Ah,Aj,Ak,G9,fp0,Cw,Yw,hf3,q11]
    refine WC.mono (Jc c11 hp11 hi9 hts 1 0 [[105,110,116],[98,111,111,108]] (by decide) (by decide)) ?_
    cases hX13:Ef ts [[105,110,116],[98,111,111,108]] (j7 + 1) with
    | out=>exact absurd hX13 (G3 _ _ _)
    | bad a e =>
     rintro _ ⟨S13,rfl,x13⟩
     simp only [Cl,Cq,Cg]
     exact ⟨_,rfl,y12.trans x13⟩
    | ok a13 j13 =>
     rintro _ ⟨_,S13,rfl,rfl,x13,c13,hi13⟩
     have hp13:p < S13.next:=Nat.lt_of_lt_of_le hp11 x13.1
     have y14:=(y12).trans x13
     have br_14:=br_12.keep x13
     have bt_14:=bt_12.keep x13
     have bf_14:=bf.keep x13
     rw [D2]
     obtain ⟨S15,q15,x15,c15,bu,hp15⟩:=Fs c13 hp13 a13
     have y16:=(y14).trans x15
     have br_16:=br_14.keep x15
     have bt_16:=bt_14.keep x15
     have bf_16:=bf_14.keep x15
     have lp:=bt_16.pos
     have lt:=bt_16.text
     have lu:=bu.text
     simp only [A6,Bk,A4,Be,A7,Bf,Br,Bu,Bd,Bp,A5,Bc,Ba,A0,A1,ofOpt,ofOptS,Bb,Cp,Bz,Nat.reduceLT,Nat.reduceEqDiff,Aa,Ab,Ac,Am,G9,q15,fd1,fa2,lp,lt,lu,Cy,Wp,b52,b54]
     obtain ⟨g17,h17,gx,gc⟩:=dJ ag54 fO (S0:=S) c15 br_16 rfl (Nat.le_refl _) y16 (xs:=(Eu ⟨a3.text,a3.pos,decide (a13.text=[98,111,111,108]),true,[],false⟩)) rfl
     simp only [B1,A4,Be,Br,Bu,A0,A1,Cp,Bi,B0,Bg,Cs,Nat.reduceEqDiff,Aa,Ab,g17,h17]
     exact ⟨_,_,rfl,rfl,gx,gc,hi13⟩
   ·rw [if_neg hm]
    simp only [A6,Bk,A4,Be,A7,Bf,Bh,Bd,Bp,A5,Bc,Ba,A0,A1,Bm,B5,ofOpt,Bb,Cp,Bz,Nat.reduceLT,Nat.reduceEqDiff,Aa,Ab,Ac,Aj,Ak,fp0,Ec,hf2]
    refine WC.mono (Np c7 hp7 hi7 hts 1 0 [[102,117,116,117,114,101]] (by decide) hm) ?_
    rintro _ ⟨S18,rfl,x18,c18,hi18,hp18⟩
    have y19:=(y8).trans x18
    have br_19:=br_8.keep x18
    have bt_19:=bt_8.keep x18
    obtain ⟨S20,q20,x20,c20,bf,hp20⟩:=Fs c18 hp18 Ea
    have y21:=(y19).trans x20
    have br_21:=br_19.keep x20
    have bt_21:=bt_19.keep x20
    simp only [A6,Bk,A4,Be,A7,Bf,Br,Bh,Bu,Bd,Bp,A5,Bc,Ba,A0,A1,Bm,B5,ofOpt,ofOptS,Bb,Cp,Bz,Nat.reduceLT,Nat.reduceEqDiff,Aa,Ab,Ac,Ag,Ah,Aj,Ak,G9,fp0,Cw,Yw,hf3,q20]
    refine WC.mono (Jc c20 hp20 hi18 hts 1 0 [[105,110,116],[98,111,111,108]] (by decide) (by decide)) ?_
    cases hX22:Ef ts [[105,110,116],[98,111,111,108]] j7 with
    | out=>exact absurd hX22 (G3 _ _ _)
    | bad a e =>
     rintro _ ⟨S22,rfl,x22⟩
     simp only [Cl,Cq,Cg]
     exact ⟨_,rfl,y21.trans x22⟩
    | ok a22 j22 =>
     rintro _ ⟨_,S22,rfl,rfl,x22,c22,hi22⟩
     have hp22:p < S22.next:=Nat.lt_of_lt_of_le hp20 x22.1
     have y23:=(y21).trans x22
     have br_23:=br_21.keep x22
     have bt_23:=bt_21.keep x22
     have bf_23:=bf.keep x22
     rw [D2]
     obtain ⟨S24,q24,x24,c24,bu,hp24⟩:=Fs c22 hp22 a22
     have y25:=(y23).trans x24
     have br_25:=br_23.keep x24
     have bt_25:=bt_23.keep x24
     have bf_25:=bf_23.keep x24
     have lp:=bt_25.pos
     have lt:=bt_25.text
     have lu:=bu.text
     simp only [A6,Bk,A4,Be,A7,Bf,Br,Bu,Bd,Bp,A5,Bc,Ba,A0,A1,ofOpt,ofOptS,Bb,Cp,Bz,Nat.reduceLT,Nat.reduceEqDiff,Aa,Ab,Ac,Am,G9,q24,fd1,fa2,lp,lt,lu,Cy,Wp,b52,b54]
     obtain ⟨g26,h26,gx,gc⟩:=dJ ag54 fO (S0:=S) c24 br_25 rfl (Nat.le_refl _) y25 (xs:=(Eu ⟨a3.text,a3.pos,decide (a22.text=[98,111,111,108]),false,[],false⟩)) rfl
     simp only [B1,A4,Be,Br,Bu,A0,A1,Cp,Bi,B0,Bg,Cs,Nat.reduceEqDiff,Aa,Ab,g26,h26]
     exact ⟨_,_,rfl,rfl,gx,gc,hi22⟩
theorem xF:ConR p k ts 157 qL (Gs ts):=fun S i h hp hi=>by
 obtain ⟨fn1,hf1⟩:=fnOk126
 obtain ⟨fn2,hf2⟩:=Lj
 obtain ⟨fn3,hf3⟩:=fnOk179
 obtain ⟨fn4,hf4⟩:=Qa
 refine Dv Tryz.f157 (by kernel_rfl) (by kernel_rfl) (by kernel_rfl) (by show (_:Nat) ≤ _;simp [Tryz.f157]) ?_
 unfold Gs
 obtain ⟨x1,c1,br,hp1⟩:=openB J0 h hp
 have y2:=x1
 simp only [A6,Bk,A4,Be,A7,Bf,Bh,Bd,A5,Bc,Ba,Ce,A0,A1,Bm,B5,ofOpt,ofOptS,Cp,Nat.reduceLT,Nat.reduceEqDiff,Aa,Ab,Ac,Ae,Aj,Ak,Tryz.f157,hf1,T3]
 refine WC.mono (decl_p hts _ _ c1 hp1 hi) ?_
 cases hX3:I6 ts i with
 | out=>exact absurd hX3 (eF _ _)
 | bad a e =>
  rintro _ ⟨S3,rfl,x3⟩
  simp only [Cl,Cq,Cg]
  exact ⟨_,rfl,y2.trans x3⟩
 | ok a3 j3 =>
  rintro _ ⟨_,S3,rfl,rfl,x3,c3,hi3⟩
  have hp3:p < S3.next:=Nat.lt_of_lt_of_le hp1 x3.1
  have y4:=(y2).trans x3
  have br_4:=br.keep x3
  rw [D2]
  have hda:Fq a3=.agg (Eu a3):=rfl
  obtain ⟨S5,q5,x5,c5,bd,hp5⟩:=boxG2 fO J0 rfl c3 hp3 (xs:=Eu a3) rfl
  have y6:=(y4).trans x5
  have br_6:=br_4.keep x5
  by_cases hm:(tk ts j3).text ∈ [[119,104,101,110]]
  ·rw [if_pos hm]
   simp only [A6,Bk,A4,Be,A7,Bf,Br,Bh,Bu,Bd,Bp,A5,Bc,Ba,A0,A1,Bm,B5,ofOpt,ofOptS,Bb,Cp,Bz,Nat.reduceLT,Nat.reduceEqDiff,Aa,Ab,Ac,Aj,Ak,fp0,Ec,hf2,T3,hda,q5]
   refine WC.mono (L4 c5 hp5 hi3 hts 1 0 [[119,104,101,110]] (by decide) (by decide) hm) ?_
   rintro _ ⟨S7,rfl,x7,c7,hi7,hp7⟩
   have y8:=(y6).trans x7
   have br_8:=br_6.keep x7
   have bd_8:=bd.keep x7
   obtain ⟨S9,q9,x9,c9,bt,hp9⟩:=Fs c7 hp7 (tk ts j3)
   have y10:=(y8).trans x9
   have br_10:=br_8.keep x9
   have bd_10:=bd_8.keep x9
   simp only [Bo,A6,Bk,Bl,A4,Be,A7,Bf,Br,Bh,Bu,Bd,Bp,De,A5,Bc,Ba,A0,A1,Bm,B5,ofOpt,ofOptS,Bb,Cp,Bz,Nat.reduceLT,Nat.reduceEqDiff,Aa,Ab,Ac,Ag,Ah,Aj,Ak,G9,fp0,Cw,Ec,hf3,hf4,q9]
   have hne:S3.next ≠ S.next:=by have:=br_4.lt; omega
   refine WC.mono (clock_p _ _ _ _ _ c9 hp9 hi7 hts) ?_
   cases hX11:I5 ts (j3 + 1) with
   | out=>exact absurd hX11 (xJ _ _)
   | bad a e =>
    rintro _ ⟨S11,rfl,x11⟩
    simp only [Cl,Cq,Cg]
    exact ⟨_,rfl,y10.trans x11⟩
   | ok a11 j11 =>
    rintro _ ⟨_,S11,rfl,rfl,x11,c11,hi11⟩
    have hp11:p < S11.next:=Nat.lt_of_lt_of_le hp9 x11.1
    have y12:=(y10).trans x11
    have br_12:=br_10.keep x11
    have bd_12:=bd_10.keep x11
    have bt_12:=bt.keep x11
    rw [D2]
    have st901:=st54_clock bd_12.get a11.1
    obtain ⟨px901,pc901,pb901,pr901⟩:=Zj (ys:=Eu { a3 with clock:=a11.1 }) y12 y4.1 bd_12 c11 br_12 hne
    have st902:=st54_off (d:={ a3 with clock:=a11.1 }) pb901.get a11.2
    obtain ⟨px902,pc902,pb902,pr902⟩:=Zj (ys:=Eu { a3 with clock:=a11.1,off:=a11.2 }) px901 y4.1 pb901 pc901 pr901 hne
    simp only [A6,Bk,A4,Be,A7,Bf,Br,Bh,Bu,Bd,Bp,A5,Bc,Ba,A0,A1,Bm,B5,ofOpt,Bb,Cp,Bz,Nat.reduceLT,Nat.reduceEqDiff,Aa,Ab,Ac,Ag,Ah,Aj,Ak,fp0,Cw,Ec,hf4,fd54_3,fd54_4,st901,st902]
    refine WC.mono (Jc pc902 hp11 hi11 hts 1 0 [[59]] (by decide) (by decide)) ?_
    cases hX13:Ef ts [[59]] j11 with
    | out=>exact absurd hX13 (G3 _ _ _)
    | bad a e =>
     rintro _ ⟨S13,rfl,x13⟩
     simp only [Cl,Cq,Cg]
     exact ⟨_,rfl,px902.trans x13⟩
    | ok a13 j13 =>
     rintro _ ⟨_,S13,rfl,rfl,x13,c13,hi13⟩
     have hp13:p < S13.next:=Nat.lt_of_lt_of_le hp11 x13.1
     have y14:=(px902).trans x13
     have bd_14:=pb902.keep x13
     have br_14:=pr902.keep x13
     rw [D2]
     have l15:=ldG ag54 fO bd_14.get rfl
     obtain ⟨g16,h16,gx,gc⟩:=dJ ag54 fO (S0:=S) c13 br_14 rfl (Nat.le_refl _) y14 (xs:=(Eu { a3 with clock:=a11.1,off:=a11.2 })) rfl
     simp only [A6,Bk,B1,A4,Be,A7,Bf,Br,Bu,Bd,Bp,A5,Bc,Ba,A0,A1,ofOpt,Cp,Bi,B0,Bg,Cs,Nat.reduceLT,Nat.reduceEqDiff,Aa,Ab,Ac,l15,g16,h16]
     exact ⟨_,_,rfl,rfl,gx,gc,hi13⟩
  ·rw [if_neg hm]
   simp only [A6,Bk,A4,Be,A7,Bf,Br,Bh,Bu,Bd,Bp,A5,Bc,Ba,A0,A1,Bm,B5,ofOpt,ofOptS,Bb,Cp,Bz,Nat.reduceLT,Nat.reduceEqDiff,Aa,Ab,Ac,Aj,Ak,fp0,Ec,hf2,T3,hda,q5]
   refine WC.mono (Np c5 hp5 hi3 hts 1 0 [[119,104,101,110]] (by decide) hm) ?_
   rintro _ ⟨S17,rfl,x17,c17,hi17,hp17⟩
   have y18:=(y6).trans x17
   have br_18:=br_6.keep x17
   have bd_18:=bd.keep x17
   obtain ⟨S19,q19,x19,c19,bt,hp19⟩:=Fs c17 hp17 Ea
   have y20:=(y18).trans x19
   have br_20:=br_18.keep x19
   have bd_20:=bd_18.keep x19
   simp only [Bo,A6,Bk,Bl,A4,Be,A7,Bf,Br,Bh,Bu,Bd,Bp,C8,A5,Bc,Ba,A0,A1,Bm,B5,ofOpt,ofOptS,Bb,Cp,Bz,Nat.reduceLT,Nat.reduceEqDiff,Aa,Ab,Ac,Ag,Ah,Aj,Ak,G9,fp0,Cw,Ec,hf3,hf4,q19]
   refine WC.mono (Jc c19 hp19 hi17 hts 1 0 [[59]] (by decide) (by decide)) ?_
   cases hX21:Ef ts [[59]] j3 with
   | out=>exact absurd hX21 (G3 _ _ _)
   | bad a e =>
    rintro _ ⟨S21,rfl,x21⟩
    simp only [Cl,Cq,Cg]
    exact ⟨_,rfl,y20.trans x21⟩
   | ok a21 j21 =>
    rintro _ ⟨_,S21,rfl,rfl,x21,c21,hi21⟩
    have hp21:p < S21.next:=Nat.lt_of_lt_of_le hp19 x21.1
    have y22:=(y20).trans x21
    have br_22:=br_20.keep x21
    have bd_22:=bd_20.keep x21
    have bt_22:=bt.keep x21
    rw [D2]
    have l23:=ldG ag54 fO bd_22.get rfl
    obtain ⟨g24,h24,gx,gc⟩:=dJ ag54 fO (S0:=S) c21 br_22 rfl (Nat.le_refl _) y22 (xs:=(Eu a3)) rfl
    simp only [A6,Bk,B1,A4,Be,A7,Bf,Br,Bu,Bd,Bp,A5,Bc,Ba,A0,A1,ofOpt,Cp,Bi,B0,Bg,Cs,Nat.reduceLT,Nat.reduceEqDiff,Aa,Ab,Ac,l23,g24,h24]
    exact ⟨_,_,rfl,rfl,gx,gc,hi21⟩
omit hts
end
def Hu {α:Type} (ts:List Tk) (kid:Nat → PR α):Nat → List α → Nat → PR (List α)
 | 0,_,_=>.out
 | n + 1,l,i=>if (tk ts i).text ∈ [[44]] then (kid (i + 1)).bind fun y j=>Hu ts kid n (l ++ [y]) j else (Ef ts [[41]] i).bind fun _ j=>.ok l j
def K3 {α:Type} (ts:List Tk) (kid:Nat → PR α) (n i:Nat):PR (List α):=(Ef ts [[40]] i).bind fun _ j=>if (tk ts j).text ∈ [[41]] then .ok [] (j + 1) else (kid j).bind fun x m=>Hu ts kid n [x] m
def Ym (sz lo:Nat) (S:St) (tok:Nat) (es:List AV):Prop:=tok=1 ∨ (2 ≤ tok ∧ lo ≤ tok ∧ tok < S.next ∧ S.mem.get tok=some (.tip (es.length * sz)))
theorem Ym.keep {sz lo p:Nat} {S S':St} {tok:Nat} {es:List AV} (h:Ym sz lo S tok es) (k:D7 p S S') (hp:p < lo):Ym sz lo S' tok es:=by
 rcases h with h | ⟨h1,h2,h3,h4⟩
 ·exact .inl h
 ·exact .inr ⟨h1,h2,Nat.lt_of_lt_of_le h3 k.1,by rw [k.2 tok h3 (by omega)]; exact h4⟩
def F2 {α:Type} (sz:Nat) (A:α → AV) (v:AV) (l:List α):Prop:=(v=.nils ∧ l=[]) ∨ ∃ tok off,v=.sl tok off sz (l.map A)
theorem i54:(Tryz.prog.info? 54).map (fun i=>(i.zero,i.size,i.bytes))=some (some (.agg #[.string ⟨#[]⟩,.int .i64 0,.bool false,.bool false,.string ⟨#[]⟩,.bool false]),6,56):=by kernel_rfl
theorem el46:Ir Tryz.prog 46=some (none,54):=by kernel_rfl
theorem un46:Tryz.prog.underlying 46=some (.slice 54):=by kernel_rfl
theorem app46 (S:St) (a b:AV):Gw E1 S 46 46 a b=Fh Tryz.prog S 46 46 a b:=rfl
theorem zr54:Mi Tryz.prog 54=some (.agg J0):=by kernel_rfl
theorem lO (xs:List AV) (hx:xs.length=6):Dw Tryz.prog 46 1 [(0,.agg xs)]=some (.sl 1 0 6 [.agg xs]):=by
 simp [Dw,el46,fO,zr54,Ca,Cb,hx]
theorem push46 {lo:Nat} {S:St} {tok:Nat} {es:List AV} (h:Ym 6 lo S tok es) (hn:2 ≤ S.next) (hlo:lo ≤ S.next) (xs:List AV) (hx:xs.length=6) (hl:es.length ≤ 2000000) :
  ∃ S',Gw E1 S 46 46 (.sl tok 0 6 es) (.sl 1 0 6 [.agg xs])=some (.sl S.next 0 6 (es ++ [.agg xs]),S') ∧ Ym 6 lo S' S.next (es ++ [.agg xs]) ∧ S.next ≤ S'.next ∧ ∀ id,id < lo → S'.mem.get id=S.mem.get id:=by
 obtain ⟨i,hi,hz0,hz1,hz2⟩:=Hb i54
 have hb1:(es.length + 1) * 56 ≤ 140737488355328:=by omega
 have hb2:es.length + 1 ≤ 9223372036854775807:=by omega
 rw [app46]
 rcases h with rfl | ⟨h1,h2,h3,h5⟩
 ·refine ⟨S.grown 1 ((es ++ [AV.agg xs]).length * 6),?_,.inr ⟨hn,hlo,Nat.lt_succ_self _,?_⟩,Nat.le_succ _,fun id hid=>?_⟩
  ·simp [Fh,el46,hi,hz0,hz1,hz2,Mr,un46,Value.cells,Px,hb1,hb2]
  ·show (S.mem.set S.next _).get S.next=_
   rw [T.get_set,if_pos rfl]
  ·show (S.mem.set S.next _).get id=_
   rw [T.get_set,if_neg (by omega)]
 ·obtain ⟨k,rfl⟩:∃ k,tok=k + 2:=⟨tok - 2,by omega⟩
  refine ⟨S.grown (k + 2) ((es ++ [AV.agg xs]).length * 6),?_,.inr ⟨hn,hlo,Nat.lt_succ_self _,?_⟩,Nat.le_succ _,fun id hid=>?_⟩
  ·simp [Fh,el46,hi,hz0,hz1,hz2,Mr,un46,Value.cells,Px,h5,hb1,hb2]
  ·show ((S.mem.set (k + 2) none).set S.next _).get S.next=_
   rw [T.get_set,if_pos rfl]
  ·show ((S.mem.set (k + 2) none).set S.next _).get id=_
   rw [T.get_set,if_neg (by omega),T.get_set,if_neg (by omega)]
def Xo:Code:=match Tryz.f156.body with
 | some (.seq _ (.seq _ (.seq (.block _ (.loop c)) _)))=>c
 | _=>.skip
def LoopRow156 (p k:Nat) (ts:List Tk) (S0:St) (x:PR (List PD)) (r:O):Prop :=
 (∃ t' S' tok l i',r=.out (.exit 0) ⟨t',[]⟩ S' ∧ t'.get 0=some (.ptr p 0) ∧ t'.get 5=some (.sl tok 0 6 (l.map Fq)) ∧ D7 p S0 S' ∧ Cur S' p k ts i' ∧ i' < ts.length ∧ p < S'.next ∧ x=(Ef ts [[41]] i').bind fun _ j=>.ok l j) ∨
 (∃ t' S' a e,r=.out (.pan (Zm a e)) ⟨t',[]⟩ S' ∧ D7 p S0 S' ∧ x=.bad a e)
section
variable {p k:Nat} {ts:List Tk} (hts:TokOk ts)
include hts
theorem cA (h2p:2 ≤ p) (m:Nat) (kid:Nat → PR PD) (hkn:∀ i,kid i ≠ .out) (hF:∃ fn,E1.F m=some fn) (hkid:ConR p k ts m qL kid) (S0:St) (hp0:p < S0.next):∀ (n:Nat) (l:List PD) (i:Nat) (t:T AV) (S:St) (tok:Nat),Hu ts kid n l i ≠ .out → n + l.length ≤ 2000000 →
  t.get 0=some (.ptr p 0) → t.get 1=some (Pu m p) → t.get 5=some (.sl tok 0 6 (l.map Fq)) → Cur S p k ts i → p < S.next → i < ts.length → Ym 6 S0.next S tok (l.map Fq) → D7 p S0 S →
  WX E1 32 (.loop Xo) ⟨t,[]⟩ S (LoopRow156 p k ts S0 (Hu ts kid n l i))
 | 0,l,i,t,S,tok,ho,hnl,h0,h1,h5,h,hp,hi,hr,hx=>absurd rfl ho
 | n + 1,l,i,t,S,tok,ho,hnl,h0,h1,h5,h,hp,hi,hr,hx=>by
  refine Do (Dh ?_)
  obtain ⟨fn1,hf1⟩:=Lj
  obtain ⟨fn2,hf2⟩:=hF
  unfold Pu at h1
  have eP:Hu ts kid (n + 1) l i=if (tk ts i).text ∈ [[44]] then (kid (i + 1)).bind fun y j=>Hu ts kid n (l ++ [y]) j else (Ef ts [[41]] i).bind fun _ j=>.ok l j:=rfl
  rw [eP] at ho ⊢
  clear eP
  by_cases hm:(tk ts i).text ∈ [[44]]
  ·rw [if_pos hm] at ho ⊢
   simp only [A6,Bk,Bq,A7,Bf,Bh,Bd,A5,Bc,Ba,A0,Bm,B5,ofOpt,Bb,Cp,Bz,Nat.reduceLT,Nat.reduceEqDiff,Aa,Ab,Ac,Aj,Ak,Tryz.f156,fp0,Ec,hf1,h0,Xo]
   refine WC.mono (L4 h hp hi hts 1 0 [[44]] (by decide) (by decide) hm) ?_
   rintro _ ⟨S1,rfl,x1,c1,hi1,hp1⟩
   have y2:=(hx).trans x1
   obtain ⟨S3,q3,x3,c3,bt,hp3⟩:=Fs c1 hp1 (tk ts i)
   have y4:=(y2).trans x3
   simp only [Bw,Bv,Bo,A6,Bk,Bl,C1,A4,C7,C5,Be,A7,Bf,Br,Bh,Bu,Bd,Bp,C8,A5,Bc,Ba,A0,Bm,B5,ofOpt,ofOptS,Cp,Fj,C6,Db,Nat.reduceLT,Nat.reduceEqDiff,Aa,Ab,Ac,Ag,Ah,Ak,Ar,G9,Cw,hf2,h1,h5,q3]
   refine WC.mono (hkid _ _ c3 hp3 hi1) ?_
   cases hX5:kid (i + 1) with
   | out=>exact absurd hX5 (hkn _)
   | bad a e =>
    rintro _ ⟨S5,rfl,x5⟩
    simp only [Dy,Dc,Cq]
    exact .inr ⟨_,_,_,_,rfl,y4.trans x5,rfl⟩
   | ok a5 j5 =>
    rw [hX5] at ho; rw [D2] at ho ⊢
    rintro _ ⟨_,S5,rfl,rfl,x5,c5,hi5⟩
    have hp5:p < S5.next:=Nat.lt_of_lt_of_le hp3 x5.1
    have y6:=(y4).trans x5
    have bt_6:=bt.keep x5
    have hda:Fq a5=.agg (Eu a5):=rfl
    have l7:=lO (Eu a5) rfl
    have hr2:Ym 6 S0.next S5 tok (l.map Fq):=hr.keep (((x1).trans x3).trans x5:D7 p S S5) hp0
    have hle:=y6.1
    obtain ⟨S8,a8,r8,n8,k8⟩:=push46 hr2 (by omega) hle (Eu a5) rfl (by rw [List.length_map]; omega)
    have z8:D7 p S0 S8:=⟨Nat.le_trans hle n8,fun id hid hn=>(k8 id hid).trans (y6.2 id hid hn)⟩
    have cc8:Cur S8 p k ts j5:=(k8 p hp0).trans c5
    have em:l.map Fq ++ [AV.agg (Eu a5)]=(l ++ [a5]).map Fq:=by rw [List.map_append]; rfl
    rw [em] at a8 r8
    simp only [Bw,Cf,Be,A7,Bf,Bd,Bp,A5,Bc,Ba,A0,Bm,ofOpt,ofOptS,Cp,Bz,Nat.reduceLT,Nat.reduceEqDiff,Aa,Ab,Ac,hda,l7,a8]
    exact cA h2p m kid hkn ⟨_,hf2⟩ hkid S0 hp0 n _ _ _ _ _ ho (by rw [List.length_append]; simp; omega) (by simp [T.get_set,h0]) (by simp [T.get_set,h1,Pu]) (by simp [T.get_set]) cc8 (by omega) hi5 r8 z8
  ·rw [if_neg hm] at ho ⊢
   simp only [A6,Bk,Bq,A7,Bf,Bh,Bd,A5,Bc,Ba,A0,Bm,B5,ofOpt,Bb,Cp,Bz,Nat.reduceLT,Nat.reduceEqDiff,Aa,Ab,Ac,Aj,Ak,Tryz.f156,fp0,Ec,hf1,h0,Xo]
   refine WC.mono (Np h hp hi hts 1 0 [[44]] (by decide) hm) ?_
   rintro _ ⟨S9,rfl,x9,c9,hi9,hp9⟩
   have y10:=(hx).trans x9
   obtain ⟨S11,q11,x11,c11,bt,hp11⟩:=Fs c9 hp9 Ea
   have y12:=(y10).trans x11
   simp only [Bw,Bv,Bo,A6,Bk,Bl,C1,A4,C7,C5,Be,A7,Bf,Br,Bh,Bu,Bd,Bp,De,A5,Bc,Ba,A0,Bm,B5,ofOpt,ofOptS,Cp,Fj,C6,Db,Nat.reduceLT,Nat.reduceEqDiff,Aa,Ab,Ac,Ag,Ah,Ak,Au,G9,Cw,hf2,h1,h5,q11]
   exact .inl ⟨_,_,tok,l,i,rfl,by simp [T.get_set,h0],by simp [T.get_set,h5],y12,c11,hi9,hp11,rfl⟩
theorem rest_p156 (h2p:2 ≤ p) (m:Nat) (kid:Nat → PR PD) (hkn:∀ i,kid i ≠ .out) (hF:∃ fn,E1.F m=some fn) (hkid:ConR p k ts m qL kid) (n:Nat) (hn:n ≤ 1000000) (S:St) (i:Nat) (h:Cur S p k ts i) (hp:p < S.next) (hi:i < ts.length) (ho:((kid i).bind fun x j=>Hu ts kid n [x] j) ≠ .out):WC E1 156 [.ptr p 0,Pu m p] S (Re p k ts S (F2 6 Fq) ((kid i).bind fun x j=>Hu ts kid n [x] j)):=by
 refine Dv Tryz.f156 (by kernel_rfl) (by kernel_rfl) (by kernel_rfl) (by show (_:Nat) ≤ _;simp [Tryz.f156]) ?_
 obtain ⟨fn2,hf2⟩:=hF
 obtain ⟨fn3,hf3⟩:=Qa
 simp only [A6,Bk,A4,Be,A7,Bf,Bh,Bd,A5,Bc,Ba,Ce,A0,A1,Bm,B5,ofOpt,Bb,Nat.reduceLT,Nat.reduceAdd,Nat.reduceEqDiff,Aa,Ab,Ac,Ae,Ak,Tryz.f156,hf2,Pu]
 refine WC.mono (hkid _ _ h hp hi) ?_
 cases hX1:kid i with
 | out=>exact absurd hX1 (hkn _)
 | bad a e =>
  rintro _ ⟨S1,rfl,x1⟩
  simp only [Cl,Cq,Cg]
  exact ⟨_,rfl,x1⟩
 | ok a1 j1 =>
  rw [hX1] at ho; rw [D2] at ho ⊢
  rintro _ ⟨_,S1,rfl,rfl,x1,c1,hi1⟩
  have hp1:p < S1.next:=Nat.lt_of_lt_of_le hp x1.1
  have y2:=x1
  have hda:Fq a1=.agg (Eu a1):=rfl
  have l3:=lO (Eu a1) rfl
  simp only [Bk,Bq,Dx,A4,Be,A7,Bf,Bd,Bp,A5,Bc,Ba,A0,A1,ofOpt,Cp,Bz,Nat.reduceLT,Nat.reduceEqDiff,Aa,Ab,Ac,hda,l3]
  refine WX.mono (cA hts h2p m kid hkn ⟨_,hf2⟩ hkid S hp n [a1] j1 _ _ 1 ho (by simp; omega) (by simp [T.get_set]) (by simp [T.get_set,Pu]) (by simp [T.get_set,hda]) c1 hp1 hi1 (.inl rfl) y2) ?_
  rintro _ (⟨t9,S9,tok9,l9,i9,rfl,g0,g5,x9,c9,hi9,hp9,e9⟩ | ⟨t9,S9,a9,e9,rfl,x9,q9⟩)
  ·rw [e9]
   simp only [A6,Bk,A4,C7,C5,A7,Bf,Bh,Bd,A5,Bc,Ba,A0,Bm,B5,ofOpt,Bb,Cp,Bz,Nat.reduceLT,Nat.reduceEqDiff,Aa,Ab,Ac,Aj,Ak,fp0,Ec,hf3,g0]
   refine WC.mono (Jc c9 hp9 hi9 hts 1 0 [[41]] (by decide) (by decide)) ?_
   cases hX4:Ef ts [[41]] i9 with
   | out=>exact absurd hX4 (G3 _ _ _)
   | bad a e =>
    rintro _ ⟨S4,rfl,x4⟩
    simp only [Cl,Cq,Cg]
    exact ⟨_,rfl,x9.trans x4⟩
   | ok a4 j4 =>
    rintro _ ⟨_,S4,rfl,rfl,x4,c4,hi4⟩
    have hp4:p < S4.next:=Nat.lt_of_lt_of_le hp9 x4.1
    have y5:=(x9).trans x4
    simp only [A6,Bk,B1,A4,Be,A7,Bf,Bd,Bp,A5,Bc,Ba,A0,ofOpt,Bi,B0,Bg,Cs,Nat.reduceLT,Nat.reduceEqDiff,Aa,Ab,Ac,g5]
    exact ⟨_,_,rfl,.inr ⟨_,_,rfl⟩,y5,c4,hi4⟩
  ·rw [q9]
   simp only [Cl,Dc,Cg]
   exact ⟨_,rfl,x9⟩
end
theorem i59:(Tryz.prog.info? 59).map (fun i=>(i.zero,i.size,i.bytes))=some (some (.agg #[.string ⟨#[]⟩,.int .i64 0]),2,24):=by kernel_rfl
theorem el55:Ir Tryz.prog 55=some (none,59):=by kernel_rfl
theorem un55:Tryz.prog.underlying 55=some (.slice 59):=by kernel_rfl
theorem app55 (S:St) (a b:AV):Gw E1 S 55 55 a b=Fh Tryz.prog S 55 55 a b:=rfl
theorem zr59:Mi Tryz.prog 59=some (.agg Z2):=by kernel_rfl
theorem lM (xs:List AV) (hx:xs.length=2):Dw Tryz.prog 55 1 [(0,.agg xs)]=some (.sl 1 0 2 [.agg xs]):=by
 simp [Dw,el55,sz59,zr59,Ca,Cb,hx]
theorem push55 {lo:Nat} {S:St} {tok:Nat} {es:List AV} (h:Ym 2 lo S tok es) (hn:2 ≤ S.next) (hlo:lo ≤ S.next) (xs:List AV) (hx:xs.length=2) (hl:es.length ≤ 2000000) :
  ∃ S',Gw E1 S 55 55 (.sl tok 0 2 es) (.sl 1 0 2 [.agg xs])=some (.sl S.next 0 2 (es ++ [.agg xs]),S') ∧ Ym 2 lo S' S.next (es ++ [.agg xs]) ∧ S.next ≤ S'.next ∧ ∀ id,id < lo → S'.mem.get id=S.mem.get id:=by
 obtain ⟨i,hi,hz0,hz1,hz2⟩:=Hb i59
 have hb1:(es.length + 1) * 24 ≤ 140737488355328:=by omega
 have hb2:es.length + 1 ≤ 9223372036854775807:=by omega
 rw [app55]
 rcases h with rfl | ⟨h1,h2,h3,h5⟩
 ·refine ⟨S.grown 1 ((es ++ [AV.agg xs]).length * 2),?_,.inr ⟨hn,hlo,Nat.lt_succ_self _,?_⟩,Nat.le_succ _,fun id hid=>?_⟩
  ·simp [Fh,el55,hi,hz0,hz1,hz2,Mr,un55,Value.cells,Px,hb1,hb2]
  ·show (S.mem.set S.next _).get S.next=_
   rw [T.get_set,if_pos rfl]
  ·show (S.mem.set S.next _).get id=_
   rw [T.get_set,if_neg (by omega)]
 ·obtain ⟨k,rfl⟩:∃ k,tok=k + 2:=⟨tok - 2,by omega⟩
  refine ⟨S.grown (k + 2) ((es ++ [AV.agg xs]).length * 2),?_,.inr ⟨hn,hlo,Nat.lt_succ_self _,?_⟩,Nat.le_succ _,fun id hid=>?_⟩
  ·simp [Fh,el55,hi,hz0,hz1,hz2,Mr,un55,Value.cells,Px,h5,hb1,hb2]
  ·show ((S.mem.set (k + 2) none).set S.next _).get S.next=_
   rw [T.get_set,if_pos rfl]
  ·show ((S.mem.set (k + 2) none).set S.next _).get id=_
   rw [T.get_set,if_neg (by omega),T.get_set,if_neg (by omega)]
def Xn:Code:=match Tryz.f181.body with
 | some (.seq _ (.seq _ (.seq (.block _ (.loop c)) _)))=>c
 | _=>.skip
def LoopRow181 (p k:Nat) (ts:List Tk) (S0:St) (x:PR (List (List UInt8 × Nat))) (r:O):Prop :=
 (∃ t' S' tok l i',r=.out (.exit 0) ⟨t',[]⟩ S' ∧ t'.get 0=some (.ptr p 0) ∧ t'.get 5=some (.sl tok 0 2 (l.map Hr)) ∧ D7 p S0 S' ∧ Cur S' p k ts i' ∧ i' < ts.length ∧ p < S'.next ∧ x=(Ef ts [[41]] i').bind fun _ j=>.ok l j) ∨
 (∃ t' S' a e,r=.out (.pan (Zm a e)) ⟨t',[]⟩ S' ∧ D7 p S0 S' ∧ x=.bad a e)
section
variable {p k:Nat} {ts:List Tk} (hts:TokOk ts)
include hts
theorem bZ (h2p:2 ≤ p) (m:Nat) (kid:Nat → PR (List UInt8 × Nat)) (hkn:∀ i,kid i ≠ .out) (hF:∃ fn,E1.F m=some fn) (hkid:ConR p k ts m isLeft kid) (S0:St) (hp0:p < S0.next):∀ (n:Nat) (l:List (List UInt8 × Nat)) (i:Nat) (t:T AV) (S:St) (tok:Nat),Hu ts kid n l i ≠ .out → n + l.length ≤ 2000000 →
  t.get 0=some (.ptr p 0) → t.get 1=some (Pu m p) → t.get 5=some (.sl tok 0 2 (l.map Hr)) → Cur S p k ts i → p < S.next → i < ts.length → Ym 2 S0.next S tok (l.map Hr) → D7 p S0 S →
  WX E1 32 (.loop Xn) ⟨t,[]⟩ S (LoopRow181 p k ts S0 (Hu ts kid n l i))
 | 0,l,i,t,S,tok,ho,hnl,h0,h1,h5,h,hp,hi,hr,hx=>absurd rfl ho
 | n + 1,l,i,t,S,tok,ho,hnl,h0,h1,h5,h,hp,hi,hr,hx=>by
  refine Do (Dh ?_)
  obtain ⟨fn1,hf1⟩:=Lj
  obtain ⟨fn2,hf2⟩:=hF
  unfold Pu at h1
  have eP:Hu ts kid (n + 1) l i=if (tk ts i).text ∈ [[44]] then (kid (i + 1)).bind fun y j=>Hu ts kid n (l ++ [y]) j else (Ef ts [[41]] i).bind fun _ j=>.ok l j:=rfl
  rw [eP] at ho ⊢
  clear eP
  by_cases hm:(tk ts i).text ∈ [[44]]
  ·rw [if_pos hm] at ho ⊢
   simp only [A6,Bk,Bq,A7,Bf,Bh,Bd,A5,Bc,Ba,A0,Bm,B5,ofOpt,Bb,Cp,Bz,Nat.reduceLT,Nat.reduceEqDiff,Aa,Ab,Ac,Aj,Ak,Tryz.f181,fp0,Ec,hf1,h0,Xn]
   refine WC.mono (L4 h hp hi hts 1 0 [[44]] (by decide) (by decide) hm) ?_
   rintro _ ⟨S1,rfl,x1,c1,hi1,hp1⟩
   have y2:=(hx).trans x1
   obtain ⟨S3,q3,x3,c3,bt,hp3⟩:=Fs c1 hp1 (tk ts i)
   have y4:=(y2).trans x3
   simp only [Bw,Bv,Bo,A6,Bk,Bl,C1,A4,C7,C5,Be,A7,Bf,Br,Bh,Bu,Bd,Bp,C8,A5,Bc,Ba,A0,Bm,B5,ofOpt,ofOptS,Cp,Fj,C6,Db,Nat.reduceLT,Nat.reduceEqDiff,Aa,Ab,Ac,Ag,Ah,Ak,Ar,G9,Cw,hf2,h1,h5,q3]
   refine WC.mono (hkid _ _ c3 hp3 hi1) ?_
   cases hX5:kid (i + 1) with
   | out=>exact absurd hX5 (hkn _)
   | bad a e =>
    rintro _ ⟨S5,rfl,x5⟩
    simp only [Dy,Dc,Cq]
    exact .inr ⟨_,_,_,_,rfl,y4.trans x5,rfl⟩
   | ok a5 j5 =>
    rw [hX5] at ho; rw [D2] at ho ⊢
    rintro _ ⟨_,S5,rfl,rfl,x5,c5,hi5⟩
    have hp5:p < S5.next:=Nat.lt_of_lt_of_le hp3 x5.1
    have y6:=(y4).trans x5
    have bt_6:=bt.keep x5
    have hda:Hr a5=.agg (Ib a5):=rfl
    have l7:=lM (Ib a5) rfl
    have hr2:Ym 2 S0.next S5 tok (l.map Hr):=hr.keep (((x1).trans x3).trans x5:D7 p S S5) hp0
    have hle:=y6.1
    obtain ⟨S8,a8,r8,n8,k8⟩:=push55 hr2 (by omega) hle (Ib a5) rfl (by rw [List.length_map]; omega)
    have z8:D7 p S0 S8:=⟨Nat.le_trans hle n8,fun id hid hn=>(k8 id hid).trans (y6.2 id hid hn)⟩
    have cc8:Cur S8 p k ts j5:=(k8 p hp0).trans c5
    have em:l.map Hr ++ [AV.agg (Ib a5)]=(l ++ [a5]).map Hr:=by rw [List.map_append]; rfl
    rw [em] at a8 r8
    simp only [Bw,Cf,Be,A7,Bf,Bd,Bp,A5,Bc,Ba,A0,Bm,ofOpt,ofOptS,Cp,Bz,Nat.reduceLT,Nat.reduceEqDiff,Aa,Ab,Ac,hda,l7,a8]
    exact bZ h2p m kid hkn ⟨_,hf2⟩ hkid S0 hp0 n _ _ _ _ _ ho (by rw [List.length_append]; simp; omega) (by simp [T.get_set,h0]) (by simp [T.get_set,h1,Pu]) (by simp [T.get_set]) cc8 (by omega) hi5 r8 z8
  ·rw [if_neg hm] at ho ⊢
   simp only [A6,Bk,Bq,A7,Bf,Bh,Bd,A5,Bc,Ba,A0,Bm,B5,ofOpt,Bb,Cp,Bz,Nat.reduceLT,Nat.reduceEqDiff,Aa,Ab,Ac,Aj,Ak,Tryz.f181,fp0,Ec,hf1,h0,Xn]
   refine WC.mono (Np h hp hi hts 1 0 [[44]] (by decide) hm) ?_
   rintro _ ⟨S9,rfl,x9,c9,hi9,hp9⟩
   have y10:=(hx).trans x9
   obtain ⟨S11,q11,x11,c11,bt,hp11⟩:=Fs c9 hp9 Ea
   have y12:=(y10).trans x11
   simp only [Bw,Bv,Bo,A6,Bk,Bl,C1,A4,C7,C5,Be,A7,Bf,Br,Bh,Bu,Bd,Bp,De,A5,Bc,Ba,A0,Bm,B5,ofOpt,ofOptS,Cp,Fj,C6,Db,Nat.reduceLT,Nat.reduceEqDiff,Aa,Ab,Ac,Ag,Ah,Ak,Au,G9,Cw,hf2,h1,h5,q11]
   exact .inl ⟨_,_,tok,l,i,rfl,by simp [T.get_set,h0],by simp [T.get_set,h5],y12,c11,hi9,hp11,rfl⟩
theorem rest_p181 (h2p:2 ≤ p) (m:Nat) (kid:Nat → PR (List UInt8 × Nat)) (hkn:∀ i,kid i ≠ .out) (hF:∃ fn,E1.F m=some fn) (hkid:ConR p k ts m isLeft kid) (n:Nat) (hn:n ≤ 1000000) (S:St) (i:Nat) (h:Cur S p k ts i) (hp:p < S.next) (hi:i < ts.length) (ho:((kid i).bind fun x j=>Hu ts kid n [x] j) ≠ .out):WC E1 181 [.ptr p 0,Pu m p] S (Re p k ts S (F2 2 Hr) ((kid i).bind fun x j=>Hu ts kid n [x] j)):=by
 refine Dv Tryz.f181 (by kernel_rfl) (by kernel_rfl) (by kernel_rfl) (by show (_:Nat) ≤ _;simp [Tryz.f181]) ?_
 obtain ⟨fn2,hf2⟩:=hF
 obtain ⟨fn3,hf3⟩:=Qa
 simp only [A6,Bk,A4,Be,A7,Bf,Bh,Bd,A5,Bc,Ba,Ce,A0,A1,Bm,B5,ofOpt,Bb,Nat.reduceLT,Nat.reduceAdd,Nat.reduceEqDiff,Aa,Ab,Ac,Ae,Ak,Tryz.f181,hf2,Pu]
 refine WC.mono (hkid _ _ h hp hi) ?_
 cases hX1:kid i with
 | out=>exact absurd hX1 (hkn _)
 | bad a e =>
  rintro _ ⟨S1,rfl,x1⟩
  simp only [Cl,Cq,Cg]
  exact ⟨_,rfl,x1⟩
 | ok a1 j1 =>
  rw [hX1] at ho; rw [D2] at ho ⊢
  rintro _ ⟨_,S1,rfl,rfl,x1,c1,hi1⟩
  have hp1:p < S1.next:=Nat.lt_of_lt_of_le hp x1.1
  have y2:=x1
  have hda:Hr a1=.agg (Ib a1):=rfl
  have l3:=lM (Ib a1) rfl
  simp only [Bk,Bq,Dx,A4,Be,A7,Bf,Bd,Bp,A5,Bc,Ba,A0,A1,ofOpt,Cp,Bz,Nat.reduceLT,Nat.reduceEqDiff,Aa,Ab,Ac,hda,l3]
  refine WX.mono (bZ hts h2p m kid hkn ⟨_,hf2⟩ hkid S hp n [a1] j1 _ _ 1 ho (by simp; omega) (by simp [T.get_set]) (by simp [T.get_set,Pu]) (by simp [T.get_set,hda]) c1 hp1 hi1 (.inl rfl) y2) ?_
  rintro _ (⟨t9,S9,tok9,l9,i9,rfl,g0,g5,x9,c9,hi9,hp9,e9⟩ | ⟨t9,S9,a9,e9,rfl,x9,q9⟩)
  ·rw [e9]
   simp only [A6,Bk,A4,C7,C5,A7,Bf,Bh,Bd,A5,Bc,Ba,A0,Bm,B5,ofOpt,Bb,Cp,Bz,Nat.reduceLT,Nat.reduceEqDiff,Aa,Ab,Ac,Aj,Ak,fp0,Ec,hf3,g0]
   refine WC.mono (Jc c9 hp9 hi9 hts 1 0 [[41]] (by decide) (by decide)) ?_
   cases hX4:Ef ts [[41]] i9 with
   | out=>exact absurd hX4 (G3 _ _ _)
   | bad a e =>
    rintro _ ⟨S4,rfl,x4⟩
    simp only [Cl,Cq,Cg]
    exact ⟨_,rfl,x9.trans x4⟩
   | ok a4 j4 =>
    rintro _ ⟨_,S4,rfl,rfl,x4,c4,hi4⟩
    have hp4:p < S4.next:=Nat.lt_of_lt_of_le hp9 x4.1
    have y5:=(x9).trans x4
    simp only [A6,Bk,B1,A4,Be,A7,Bf,Bd,Bp,A5,Bc,Ba,A0,ofOpt,Bi,B0,Bg,Cs,Nat.reduceLT,Nat.reduceEqDiff,Aa,Ab,Ac,g5]
    exact ⟨_,_,rfl,.inr ⟨_,_,rfl⟩,y5,c4,hi4⟩
  ·rw [q9]
   simp only [Cl,Dc,Cg]
   exact ⟨_,rfl,x9⟩
end
section
end
def Ky (ts:List Tk):Nat → List PD → Nat → PR (List PD)
 | 0,_,_=>.out
 | n + 1,l,i=>if (tk ts i).kind=1 then (Gs ts i).bind fun d j=>Ky ts n (l ++ [d]) j else .ok l i
def J9 (ts:List Tk) (n i:Nat):PR (List (List UInt8 × Nat)):=if (tk ts i).kind=1 then (Ix ts i).bind fun x j=>.ok [x] j else (Ef ts [[40]] i).bind fun _ j=>(Ix ts j).bind fun x j=>(Ef ts [[44]] j).bind fun _ j=>((Ix ts j).bind fun y m=>Hu ts (Ix ts) n [y] m).bind fun l m=>.ok (x :: l) m
theorem uU {α:Type} (ts:List Tk) (kid:Nat → PR α):∀ (n:Nat) (l:List α) (i:Nat) (r:List α) (j:Nat),Hu ts kid n l i=.ok r j → r.length ≤ l.length + n
 | 0,l,i,r,j,h=>by cases h
 | n + 1,l,i,r,j,h=>by
  unfold Hu at h
  split at h
  ·cases hk:kid (i + 1) with
   | out=>rw [hk] at h; cases h
   | bad a e=>rw [hk] at h; cases h
   | ok a m =>
    rw [hk,D2] at h
    have:=uU ts kid n _ _ _ _ h
    rw [List.length_append] at this
    simp at this
    omega
  ·cases hk:Ef ts [[41]] i with
   | out=>rw [hk] at h; cases h
   | bad a e=>rw [hk] at h; cases h
   | ok a m =>
    rw [hk,D2] at h
    cases h
    omega
theorem app55r {p k i:Nat} {S:St} {ts:List Tk} (h:Cur S p k ts i) (hp:p < S.next) (x:List UInt8 × Nat) {v:AV} {l:List (List UInt8 × Nat)} (hv:F2 2 Hr v l) (hl:l.length ≤ 2000000) :
  ∃ S' w,Gw E1 S 55 55 (.sl 1 0 2 [Hr x]) v=some (w,S') ∧ F2 2 Hr w (x :: l) ∧ D7 p S S' ∧ Cur S' p k ts i:=by
 obtain ⟨i',hi,hz0,hz1,hz2⟩:=Hb i59
 rw [app55]
 have same:∀ (w:AV),w=.sl 1 0 2 [Hr x] → F2 2 Hr w [x]:=fun w e=>.inr ⟨1,0,e⟩
 rcases hv with ⟨rfl,rfl⟩ | ⟨tok,off,rfl⟩
 ·refine ⟨S,.sl 1 0 2 [Hr x],?_,same _ rfl,⟨Nat.le_refl _,fun _ _ _=>rfl⟩,h⟩
  simp [Fh,el55,hi,hz0,hz1,Mr,un55,Value.cells]
 ·cases l with
  | nil =>
   refine ⟨S,.sl 1 0 2 [Hr x],?_,same _ rfl,⟨Nat.le_refl _,fun _ _ _=>rfl⟩,h⟩
   simp [Fh,el55,hi,hz0,hz1,Mr,un55,Value.cells]
  | cons y r =>
   have hb1:(1 + (r.length + 1)) * 24 ≤ 140737488355328:=by simp at hl; omega
   have hb2:1 + (r.length + 1) ≤ 9223372036854775807:=by omega
   refine ⟨S.grown 1 ((Hr x :: Hr y :: r.map Hr).length * 2),.sl S.next 0 2 ((x :: y :: r).map Hr),?_,.inr ⟨_,_,rfl⟩,⟨Nat.le_succ _,fun id hid _=>?_⟩,?_⟩
   ·simp [Fh,el55,hi,hz0,hz1,hz2,Mr,un55,Value.cells,Px,hb1,hb2]
   ·show (S.mem.set S.next _).get id=_
    rw [T.get_set,if_neg (by omega)]
   ·show (S.mem.set S.next _).get p=_
    rw [T.get_set,if_neg (by omega)]; exact h
section
variable {p k:Nat} {ts:List Tk} (hts:TokOk ts)
include hts
theorem jU (h2p:2 ≤ p) (m:Nat) (kid:Nat → PR PD) (hkn:∀ i,kid i ≠ .out) (hF:∃ fn,E1.F m=some fn) (hkid:ConR p k ts m qL kid) (n:Nat) (hn:n ≤ 1000000) (S:St) (i:Nat) (h:Cur S p k ts i) (hp:p < S.next) (hi:i < ts.length) (ho:K3 ts kid n i ≠ .out):WC E1 125 [.ptr p 0,Pu m p] S (Re p k ts S (F2 6 Fq) (K3 ts kid n i)):=by
 have eP:K3 ts kid n i=(Ef ts [[40]] i).bind fun _ j=>if (tk ts j).text ∈ [[41]] then .ok [] (j + 1) else (kid j).bind fun x m=>Hu ts kid n [x] m:=rfl
 rw [eP] at ho ⊢
 clear eP
 refine Dv Tryz.f125 (by kernel_rfl) (by kernel_rfl) (by kernel_rfl) (by show (_:Nat) ≤ _;simp [Tryz.f125]) ?_
 obtain ⟨fn1,hf1⟩:=Lj
 obtain ⟨fn2,hf2⟩:=Qa
 obtain ⟨fn3,hf3⟩:=fnOk156
 simp only [A6,Bk,A4,Be,A7,Bf,Bh,Bd,A5,Bc,Ba,Ce,A0,A1,Bm,B5,ofOpt,Bb,Cp,Bz,Nat.reduceLT,Nat.reduceAdd,Nat.reduceEqDiff,Aa,Ab,Ac,Ae,Aj,Ak,Tryz.f125,fp0,Ec,hf2]
 refine WC.mono (Jc h hp hi hts 1 0 [[40]] (by decide) (by decide)) ?_
 cases hX1:Ef ts [[40]] i with
 | out=>exact absurd hX1 (G3 _ _ _)
 | bad a e =>
  rintro _ ⟨S1,rfl,x1⟩
  simp only [Cl,Cq,Cg]
  exact ⟨_,rfl,x1⟩
 | ok a1 j1 =>
  rw [hX1] at ho; rw [D2] at ho ⊢
  rintro _ ⟨_,S1,rfl,rfl,x1,c1,hi1⟩
  have hp1:p < S1.next:=Nat.lt_of_lt_of_le hp x1.1
  have y2:=x1
  by_cases hm:(tk ts j1).text ∈ [[41]]
  ·rw [if_pos hm] at ho ⊢
   simp only [A6,Bk,A4,Be,A7,Bf,Bh,Bd,Bp,A5,Bc,Ba,A0,A1,Bm,B5,ofOpt,Bb,Cp,Bz,Nat.reduceLT,Nat.reduceEqDiff,Aa,Ab,Ac,Aj,Ak,fp0,Ec,hf1]
   refine WC.mono (L4 c1 hp1 hi1 hts 1 0 [[41]] (by decide) (by decide) hm) ?_
   rintro _ ⟨S3,rfl,x3,c3,hi3,hp3⟩
   have y4:=(y2).trans x3
   obtain ⟨S5,q5,x5,c5,bt,hp5⟩:=Fs c3 hp3 (tk ts j1)
   have y6:=(y4).trans x5
   simp only [Bo,A6,Bk,Bl,B1,A4,Dd,Be,A7,Bf,Br,Bh,Bu,Bd,Bp,De,A5,Bc,Ba,A0,A1,Bm,B5,ofOpt,ofOptS,Bb,Cp,Bi,B0,Bg,Cs,Nat.reduceLT,Nat.reduceEqDiff,Aa,Ab,Ac,Ag,Ah,Aj,Ak,G9,Cw,hf3,q5]
   exact ⟨_,_,rfl,.inl ⟨rfl,rfl⟩,y6,c5,hi3⟩
  ·rw [if_neg hm] at ho ⊢
   simp only [A6,Bk,A4,Be,A7,Bf,Bh,Bd,Bp,A5,Bc,Ba,A0,A1,Bm,B5,ofOpt,Bb,Cp,Bz,Nat.reduceLT,Nat.reduceEqDiff,Aa,Ab,Ac,Aj,Ak,fp0,Ec,hf1]
   refine WC.mono (Np c1 hp1 hi1 hts 1 0 [[41]] (by decide) hm) ?_
   rintro _ ⟨S7,rfl,x7,c7,hi7,hp7⟩
   have y8:=(y2).trans x7
   obtain ⟨S9,q9,x9,c9,bt,hp9⟩:=Fs c7 hp7 Ea
   have y10:=(y8).trans x9
   simp only [Bo,A6,Bk,Bl,B1,A4,Dd,Be,A7,Bf,Br,Bh,Bu,Bd,Bp,C8,A5,Bc,Ba,A0,A1,Bm,B5,ofOpt,ofOptS,Bb,Cp,Bi,B0,Bg,Cs,Nat.reduceLT,Nat.reduceEqDiff,Aa,Ab,Ac,Ag,Ah,Aj,Ak,G9,Cw,hf3,q9]
   refine WC.mono (rest_p156 hts h2p m kid hkn hF hkid n hn _ _ c9 hp9 hi7 ho) ?_
   cases hX11:(kid j1).bind fun x m=>Hu ts kid n [x] m with
   | out=>exact absurd hX11 ho
   | bad a e =>
    rintro _ ⟨S11,rfl,x11⟩
    simp only [Cl,Cq,Cg]
    exact ⟨_,rfl,y10.trans x11⟩
   | ok a j =>
    rintro _ ⟨v,S11,rfl,hv,x11,c11,hi11⟩
    simp only [B1,A4,Be,A7,Bf,Bd,Bp,A5,Bc,Ba,A0,A1,ofOpt,Bi,B0,Bg,Cs,Nat.reduceLT,Nat.reduceEqDiff,Aa,Ab,Ac]
    exact ⟨_,_,rfl,hv,y10.trans x11,c11,hi11⟩
theorem lefts_p (h2p:2 ≤ p) (n:Nat) (hn:n ≤ 1000000) (S:St) (i:Nat) (h:Cur S p k ts i) (hp:p < S.next) (hi:i < ts.length) (ho:J9 ts n i ≠ .out):WC E1 158 [.ptr p 0] S (Re p k ts S (F2 2 Hr) (J9 ts n i)):=by
 have eP:J9 ts n i=if (tk ts i).kind=1 then (Ix ts i).bind fun x j=>.ok [x] j else (Ef ts [[40]] i).bind fun _ j=>(Ix ts j).bind fun x j=>(Ef ts [[44]] j).bind fun _ j=>((Ix ts j).bind fun y m=>Hu ts (Ix ts) n [y] m).bind fun l m=>.ok (x :: l) m:=rfl
 rw [eP] at ho ⊢
 clear eP
 refine Dv Tryz.f158 (by kernel_rfl) (by kernel_rfl) (by kernel_rfl) (by show (_:Nat) ≤ _;simp [Tryz.f158]) ?_
 obtain ⟨fn1,hf1⟩:=R3
 obtain ⟨fn2,hf2⟩:=fnOk180
 obtain ⟨fn3,hf3⟩:=Qa
 obtain ⟨fn4,hf4⟩:=fnOk181
 simp only [A6,Bk,A4,Be,A7,Bf,Bh,Bd,A5,Bc,Ba,Ce,A0,A1,Bm,B5,ofOpt,Bb,Cp,Nat.reduceLT,Nat.reduceEqDiff,Aa,Ab,Ac,Ae,Aj,Ak,Tryz.f158,fp0,hf1]
 refine WC.mono (cS _ p k ts i h hp hi) ?_
 rintro _ ⟨S1,rfl,k1⟩
 have x1:=k1.x p
 have c1:=h.keep hp k1
 have hp1:p < S1.next:=Nat.lt_of_lt_of_le hp x1.1
 have y2:=x1
 have e0:=Nn hi
 by_cases h1:(tk ts i).kind=1
 ·rw [if_pos h1] at ho ⊢
  have n1:(((ts[i].kind:Nat):Int) == 1)=true:=by rw [← e0,h1]; rfl
  simp only [Bo,A6,Bk,Bl,A4,Be,A7,Bf,Bh,Bd,Bp,De,A5,Bc,Ba,A0,A1,Bm,B5,ofOpt,Bb,Cp,Bz,Bs,B9,Nat.reduceLT,Nat.reduceEqDiff,Aa,Ab,Ac,Aj,Ak,Am,fp0,Ec,hf2,hf3,Ly,Dq,n1]
  refine WC.mono (left_p hts _ _ c1 hp1 hi) ?_
  cases hX3:Ix ts i with
  | out=>exact absurd hX3 (qF _ _)
  | bad a e =>
   rintro _ ⟨S3,rfl,x3⟩
   simp only [Cl,Cq,Cg]
   exact ⟨_,rfl,y2.trans x3⟩
  | ok a3 j3 =>
   rintro _ ⟨_,S3,rfl,rfl,x3,c3,hi3⟩
   have hp3:p < S3.next:=Nat.lt_of_lt_of_le hp1 x3.1
   have y4:=(y2).trans x3
   rw [D2]
   have hda:Hr a3=.agg (Ib a3):=rfl
   have l5:=lM (Ib a3) rfl
   simp only [B1,A4,Dd,Be,A7,Bf,Bd,Bp,A5,Bc,Ba,A0,A1,ofOpt,Cp,Bz,Bi,B0,Bg,Cs,Nat.reduceLT,Nat.reduceEqDiff,Aa,Ab,Ac,hda,l5]
   exact ⟨_,_,rfl,.inr ⟨_,_,rfl⟩,y4,c3,hi3⟩
 ·rw [if_neg h1] at ho ⊢
  have n1:(((ts[i].kind:Nat):Int) == 1)=false:=by rw [← e0,beq_eq_false_iff_ne]; omega
  simp only [Bo,A6,Bk,Bl,A4,Be,A7,Bf,Bh,Bd,Bp,C8,A5,Bc,Ba,A0,A1,Bm,B5,ofOpt,Bb,Cp,Bz,Bs,B9,Nat.reduceLT,Nat.reduceEqDiff,Aa,Ab,Ac,Aj,Ak,Am,fp0,Ec,hf2,hf3,Ly,Dq,n1]
  refine WC.mono (Jc c1 hp1 hi hts 1 0 [[40]] (by decide) (by decide)) ?_
  cases hX6:Ef ts [[40]] i with
  | out=>exact absurd hX6 (G3 _ _ _)
  | bad a e =>
   rintro _ ⟨S6,rfl,x6⟩
   simp only [Cl,Cq,Cg]
   exact ⟨_,rfl,y2.trans x6⟩
  | ok a6 j6 =>
   rw [hX6] at ho; rw [D2] at ho ⊢
   rintro _ ⟨_,S6,rfl,rfl,x6,c6,hi6⟩
   have hp6:p < S6.next:=Nat.lt_of_lt_of_le hp1 x6.1
   have y7:=(y2).trans x6
   simp only [A6,Bk,A4,Be,A7,Bf,Bh,Bd,Bp,A5,Bc,Ba,A0,A1,Bm,B5,ofOpt,Nat.reduceLT,Nat.reduceEqDiff,Aa,Ab,Ac,Aj,Ak,hf2]
   refine WC.mono (left_p hts _ _ c6 hp6 hi6) ?_
   cases hX8:Ix ts j6 with
   | out=>exact absurd hX8 (qF _ _)
   | bad a e =>
    rintro _ ⟨S8,rfl,x8⟩
    simp only [Cl,Cq,Cg]
    exact ⟨_,rfl,y7.trans x8⟩
   | ok a8 j8 =>
    rw [hX8] at ho; rw [D2] at ho ⊢
    rintro _ ⟨_,S8,rfl,rfl,x8,c8,hi8⟩
    have hp8:p < S8.next:=Nat.lt_of_lt_of_le hp6 x8.1
    have y9:=(y7).trans x8
    have hda:Hr a8=.agg (Ib a8):=rfl
    obtain ⟨S10,q10,x10,c10,bf,hp10⟩:=boxG2 sz59 Z2 rfl c8 hp8 (xs:=Ib a8) rfl
    have y11:=(y9).trans x10
    simp only [A6,Bk,A4,Be,A7,Bf,Br,Bh,Bu,Bd,Bp,A5,Bc,Ba,A0,A1,Bm,B5,ofOpt,ofOptS,Bb,Cp,Bz,Nat.reduceLT,Nat.reduceEqDiff,Aa,Ab,Ac,Aj,Ak,fp0,Ec,hf3,alo59,hda,q10]
    refine WC.mono (Jc c10 hp10 hi8 hts 1 0 [[44]] (by decide) (by decide)) ?_
    cases hX12:Ef ts [[44]] j8 with
    | out=>exact absurd hX12 (G3 _ _ _)
    | bad a e =>
     rintro _ ⟨S12,rfl,x12⟩
     simp only [Cl,Cq,Cg]
     exact ⟨_,rfl,y11.trans x12⟩
    | ok a12 j12 =>
     rw [hX12] at ho; rw [D2] at ho ⊢
     rintro _ ⟨_,S12,rfl,rfl,x12,c12,hi12⟩
     have hp12:p < S12.next:=Nat.lt_of_lt_of_le hp10 x12.1
     have y13:=(y11).trans x12
     have bf_13:=bf.keep x12
     have l14:=ldG ag59 sz59 bf_13.get rfl
     have l15:=lM (Ib a8) rfl
     simp only [Co,Bk,A4,Be,Bd,Bp,Nat.reduceLT,Ac]
     refine Fv [(0,true),(1,true),(2,true),(3,true),(4,true),(5,true),(0,false),(6,true),(7,true)] (by kernel_rfl) (by kernel_rfl) ?_
     simp only [A5,Bc,Ba,A0,A1,Bm,B5,ofOpt,Cp,Bz,Nat.reduceLT,Nat.reduceEqDiff,Aa,Ab,Ac,Af,Ag,Ah,Aj,Ak,Am,Dr,Ee,Eb,Du,F4,hf4,l14,l15]
     have hb2:=Gp ho
     refine WC.mono (rest_p181 hts h2p 180 _ (qF ts) fnOk180 (left_p hts) n hn _ _ c12 hp12 hi12 hb2) ?_
     cases hX:(Ix ts j12).bind fun y m=>Hu ts (Ix ts) n [y] m with
     | out=>exact absurd hX hb2
     | bad a e =>
      rintro _ ⟨S99,rfl,x99⟩
      simp only [Cl,Cg,Fp,F7]
      exact ⟨_,rfl,y13.trans x99⟩
     | ok l j =>
      rw [D2]
      rintro _ ⟨v,S99,rfl,hv,x99,c99,hi99⟩
      have hp99:p < S99.next:=Nat.lt_of_lt_of_le hp12 x99.1
      have y17:=(y13).trans x99
      have bf_17:=bf_13.keep x99
      have hlen:l.length ≤ 2000000:=by
       cases hk:Ix ts j12 with
       | out=>rw [hk] at hX; cases hX
       | bad a e=>rw [hk] at hX; cases hX
       | ok a m=>rw [hk,D2] at hX; have:=uU _ _ _ _ _ _ _ hX; simp at this; omega
      obtain ⟨S98,w98,ha98,hw98,x98,c98⟩:=app55r c99 hp99 a8 hv hlen
      rw [hda] at ha98
      have l18:=ldG ag59 sz59 bf_17.get rfl
      have bq:Gj (.sl 1 0 2 [.agg (Ib a8)]) (.sl 1 0 2 [.agg (Ib a8)])=true:=by simp [Gj,Mo,Ib,Bt,Dq,eqS,Jk]
      have bq2:Gj (.agg (Ib a8)) (.agg (Ib a8))=true:=by simp [Gj,Mo,Ib,Bt,Dq,eqS,Jk]
      simp only [B1,A4,A5,Bc,Ba,A0,A1,Bm,ofOpt,ofOptS,Cp,Bi,B0,Bg,Cs,Nat.reduceLT,Nat.reduceEqDiff,Aa,Ab,Ac,D9,Dr,Kf,Ee,Du,Ep,Ei,D6,Em,l18,bq2,ha98]
      exact ⟨_,_,rfl,hw98,y17.trans x98,c98,hi99⟩
omit hts
def varsBody:Code:=match Tryz.f127.body with
 | some (.seq _ (.seq _ (.seq (.block _ (.loop c)) _)))=>c
 | _=>.skip
def LoopVars (p k:Nat) (ts:List Tk) (S0:St) (x:PR (List PD)) (r:O):Prop :=
 (∃ t' S' tok l i',r=.out (.exit 0) ⟨t',[]⟩ S' ∧ t'.get 3=some (.sl tok 0 6 (l.map Fq)) ∧ D7 p S0 S' ∧ Cur S' p k ts i' ∧ i' < ts.length ∧ p < S'.next ∧ x=.ok l i') ∨
 (∃ t' S' a e,r=.out (.pan (Zm a e)) ⟨t',[]⟩ S' ∧ D7 p S0 S' ∧ x=.bad a e)
include hts
theorem tV (h2p:2 ≤ p) (S0:St) (hp0:p < S0.next):∀ (n:Nat) (l:List PD) (i:Nat) (t:T AV) (S:St) (tok:Nat),Ky ts n l i ≠ .out → n + l.length ≤ 2000000 →
  t.get 0=some (.ptr p 0) → t.get 3=some (.sl tok 0 6 (l.map Fq)) → Cur S p k ts i → p < S.next → i < ts.length → Ym 6 S0.next S tok (l.map Fq) → D7 p S0 S →
  WX E1 19 (.loop varsBody) ⟨t,[]⟩ S (LoopVars p k ts S0 (Ky ts n l i))
 | 0,l,i,t,S,tok,ho,hnl,h0,h3,h,hp,hi,hr,hx=>absurd rfl ho
 | n + 1,l,i,t,S,tok,ho,hnl,h0,h3,h,hp,hi,hr,hx=>by
  refine Do (Dh ?_)
  obtain ⟨fn1,hf1⟩:=R3
  obtain ⟨fn2,hf2⟩:=fnOk157
  have eP:Ky ts (n + 1) l i=if (tk ts i).kind=1 then (Gs ts i).bind fun d j=>Ky ts n (l ++ [d]) j else .ok l i:=rfl
  rw [eP] at ho ⊢
  clear eP
  have e0:=Nn hi
  simp only [A6,Bk,A7,Bf,Bh,Bd,A5,Bc,Ba,A0,Bm,B5,ofOpt,Cp,Nat.reduceLT,Nat.reduceEqDiff,Aa,Ab,Ac,Aj,Ak,Tryz.f127,fp0,hf1,h0,varsBody]
  refine WC.mono (cS _ p k ts i h hp hi) ?_
  rintro _ ⟨S1,rfl,k1⟩
  have x1:=k1.x p
  have c1:=h.keep hp k1
  have hp1:p < S1.next:=Nat.lt_of_lt_of_le hp x1.1
  have y2:=(hx).trans x1
  by_cases h1:(tk ts i).kind=1
  ·rw [if_pos h1] at ho ⊢
   have n1:(((ts[i].kind:Nat):Int) == 1)=true:=by rw [← e0,h1]; rfl
   simp only [Bv,Bo,A6,Bl,Bq,C1,A4,C7,Be,A7,Bf,Bh,Bd,Bp,De,A5,Bc,Ba,A0,Bm,B5,ofOpt,Bb,Cp,Bs,B9,Nat.reduceLT,Nat.reduceEqDiff,Aa,Ab,Ac,Aj,Ak,Am,hf2,h0,h3,Ly,Dq,n1]
   refine WC.mono (xF hts _ _ c1 hp1 hi) ?_
   cases hX3:Gs ts i with
   | out=>exact absurd hX3 (kI _ _)
   | bad a e =>
    rintro _ ⟨S3,rfl,x3⟩
    simp only [Dy,Dc,Cq]
    exact .inr ⟨_,_,_,_,rfl,y2.trans x3,rfl⟩
   | ok a3 j3 =>
    rw [hX3] at ho; rw [D2] at ho ⊢
    rintro _ ⟨_,S3,rfl,rfl,x3,c3,hi3⟩
    have hp3:p < S3.next:=Nat.lt_of_lt_of_le hp1 x3.1
    have y4:=(y2).trans x3
    have hda:Fq a3=.agg (Eu a3):=rfl
    have l5:=lO (Eu a3) rfl
    have hr2:Ym 6 S0.next S3 tok (l.map Fq):=hr.keep ((x1).trans x3:D7 p S S3) hp0
    have hle:=y4.1
    obtain ⟨S6,a6,r6,n6,k6⟩:=push46 hr2 (by omega) hle (Eu a3) rfl (by rw [List.length_map]; omega)
    have z6:D7 p S0 S6:=⟨Nat.le_trans hle n6,fun id hid hn=>(k6 id hid).trans (y4.2 id hid hn)⟩
    have cc6:Cur S6 p k ts j3:=(k6 p hp0).trans c3
    have em:l.map Fq ++ [AV.agg (Eu a3)]=(l ++ [a3]).map Fq:=by rw [List.map_append]; rfl
    rw [em] at a6 r6
    simp only [Bw,Cf,Be,A7,Bf,Bd,Bp,A5,Bc,Ba,A0,Bm,ofOpt,ofOptS,Cp,Bz,Nat.reduceLT,Nat.reduceEqDiff,Aa,Ab,Ac,hda,l5,a6]
    exact tV h2p S0 hp0 n _ _ _ _ _ ho (by rw [List.length_append]; simp; omega) (by simp [T.get_set,h0]) (by simp [T.get_set]) cc6 (by omega) hi3 r6 z6
  ·rw [if_neg h1] at ho ⊢
   have n1:(((ts[i].kind:Nat):Int) == 1)=false:=by rw [← e0,beq_eq_false_iff_ne]; omega
   simp only [Bv,Bo,A6,Bl,Bq,C1,A4,C7,Be,A7,Bf,Bh,Bd,Bp,C8,A5,Bc,Ba,A0,Bm,B5,ofOpt,Bb,Cp,Bs,B9,Nat.reduceLT,Nat.reduceEqDiff,Aa,Ab,Ac,Aj,Ak,Am,hf2,h0,h3,Ly,Dq,n1]
   exact .inl ⟨_,_,tok,l,i,rfl,by simp [T.get_set,h3],y2,c1,hi,hp1,rfl⟩
theorem vars_p (h2p:2 ≤ p) (n:Nat) (hn:n ≤ 1000000) (S:St) (i:Nat) (h:Cur S p k ts i) (hp:p < S.next) (hi:i < ts.length) (ho:((Gs ts i).bind fun x j=>Ky ts n [x] j) ≠ .out):WC E1 127 [.ptr p 0] S (Re p k ts S (F2 6 Fq) ((Gs ts i).bind fun x j=>Ky ts n [x] j)):=by
 refine Dv Tryz.f127 (by kernel_rfl) (by kernel_rfl) (by kernel_rfl) (by show (_:Nat) ≤ _;simp [Tryz.f127]) ?_
 obtain ⟨fn2,hf2⟩:=fnOk157
 simp only [A6,Bk,A4,Be,A7,Bf,Bh,Bd,A5,Bc,Ba,Ce,A0,A1,Bm,B5,ofOpt,Bb,Nat.reduceLT,Nat.reduceEqDiff,Aa,Ab,Ac,Ae,Aj,Ak,Tryz.f127,hf2]
 refine WC.mono (xF hts _ _ h hp hi) ?_
 cases hX1:Gs ts i with
 | out=>exact absurd hX1 (kI _ _)
 | bad a e =>
  rintro _ ⟨S1,rfl,x1⟩
  simp only [Cl,Cq,Cg]
  exact ⟨_,rfl,x1⟩
 | ok a1 j1 =>
  rw [hX1] at ho; rw [D2] at ho ⊢
  rintro _ ⟨_,S1,rfl,rfl,x1,c1,hi1⟩
  have hp1:p < S1.next:=Nat.lt_of_lt_of_le hp x1.1
  have y2:=x1
  have hda:Fq a1=.agg (Eu a1):=rfl
  have l3:=lO (Eu a1) rfl
  simp only [Bk,Bq,Dx,A4,Be,A7,Bf,Bd,Bp,A5,Bc,Ba,A0,A1,ofOpt,Cp,Bz,Nat.reduceLT,Nat.reduceEqDiff,Aa,Ab,Ac,hda,l3]
  refine WX.mono (tV hts h2p S hp n [a1] j1 _ _ 1 ho (by simp; omega) (by simp [T.get_set]) (by simp [T.get_set,hda]) c1 hp1 hi1 (.inl rfl) y2) ?_
  rintro _ (⟨t9,S9,tok9,l9,i9,rfl,g3,x9,c9,hi9,hp9,e9⟩ | ⟨t9,S9,a9,e9,rfl,x9,q9⟩)
  ·rw [e9]
   simp only [A6,Bk,B1,A4,C7,C5,Be,A7,Bf,Bd,A5,Bc,Ba,A0,ofOpt,Bi,B0,Bg,Cs,Nat.reduceLT,Nat.reduceEqDiff,Aa,Ab,Ac,g3]
   exact ⟨_,_,rfl,.inr ⟨_,_,rfl⟩,x9,c9,hi9⟩
  ·rw [q9]
   simp only [Cl,Dc,Cg]
   exact ⟨_,rfl,x9⟩
end
end Go.Ax
