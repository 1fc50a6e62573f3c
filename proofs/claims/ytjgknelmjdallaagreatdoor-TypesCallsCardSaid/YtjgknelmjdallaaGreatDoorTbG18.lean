/- Ph -/
import Derived.Test.YtjgknelmjdallaaGreatDoorTbPg
set_option linter.unusedVariables false
set_option linter.unusedSimpArgs false
set_option maxHeartbeats 16000000
noncomputable section
namespace Go.Ax
open Go.RowKit Go.Proofs
set_option maxRecDepth 100000
theorem fnOk125:∃ fn,E1.F 125=some fn:=Option.isSome_iff_exists.1 (by kernel_rfl)
theorem wN:∃ fn,E1.F 126=some fn:=Option.isSome_iff_exists.1 (by kernel_rfl)
theorem fnOk127:∃ fn,E1.F 127=some fn:=Option.isSome_iff_exists.1 (by kernel_rfl)
theorem fnOk156:∃ fn,E1.F 156=some fn:=Option.isSome_iff_exists.1 (by kernel_rfl)
theorem fnOk157:∃ fn,E1.F 157=some fn:=Option.isSome_iff_exists.1 (by kernel_rfl)
theorem fnOk158:∃ fn,E1.F 158=some fn:=Option.isSome_iff_exists.1 (by kernel_rfl)
theorem fnOk180:∃ fn,E1.F 180=some fn:=Option.isSome_iff_exists.1 (by kernel_rfl)
theorem fnOk181:∃ fn,E1.F 181=some fn:=Option.isSome_iff_exists.1 (by kernel_rfl)
theorem A4 {E:Env} {n:Nat} {f:Fr} {S:St} {Q:O → Prop} {b:Code}:vA E n b Q (.out .normal f S)=W E n b f S Q:=id rfl
theorem Bf {E:Env} {n:Nat} {f:Fr} {S:St} {Q:O → Prop} {ops:Array Oper}:WL E n ops [] f S Q=Q (.out .normal f S):=id rfl
theorem Eg {E:Env} {n:Nat} {f:Fr} {S:St} {Q:O → Prop} {ops:Array Oper}:WR E n ops [] f S Q=Q (.out .normal f S):=id rfl
section
variable {S:St} {p k i T n:Nat} {ts:List Tk}
theorem stG (hs:Fm Tryz.prog T=some n) {id:Nat} {cs ys:List AV} (h:S.mem.get id=some (.box cs)) (hl:cs.length=n) (hy:ys.length=n):Dk Tryz.prog S T (.ptr id 0) (.agg ys)=some (S.put id ys):=by
 have h2:(AV.agg ys).noTup=true:=rfl
 simp [Dk,h,hs,h2,AV.cells,hl,hy,St.put,List.drop_eq_nil_of_le]
theorem ldG (ha:Fq Tryz.prog T=some true) (hs:Fm Tryz.prog T=some n) {id:Nat} {cs:List AV} (h:S.mem.get id=some (.box cs)) (hl:cs.length=n):Ci Tryz.prog S T (.ptr id 0)=some (.agg cs):=by
 have e:cs.take n=cs:=List.take_of_length_le (by omega)
 simp [Ci,Dv,h,ha,hs,hl,e]
theorem zY (Z:List AV) (h:Cur S p k ts i) (hp:p < S.next):Eb p S (S.newBox Z) ∧ Cur (S.newBox Z) p k ts i ∧ Has p (S.newBox Z) S.next Z ∧ p < (S.newBox Z).next :=
 ⟨Ks S Z,h.new hp Z,⟨Cu S _,Nat.lt_succ_self _,by omega⟩,Nat.lt_succ_of_lt hp⟩
theorem boxG2 (hs:Fm Tryz.prog T=some n) (Z:List AV) (hz:Z.length=n) (h:Cur S p k ts i) (hp:p < S.next) {xs:List AV} (hx:xs.length=n):∃ S',Dk Tryz.prog (S.newBox Z) T (.ptr S.next 0) (.agg xs)=some S' ∧ Eb p S S' ∧ Cur S' p k ts i ∧ Has p S' S.next xs ∧ p < S'.next :=
 ⟨_,stG hs (Cu S _) hz hx,Jf (Ks S _) (Nat.le_refl _) _,(h.new hp _).put (by omega) _,⟨Ef _ _ _,Nat.lt_succ_self _,by omega⟩,Nat.lt_succ_of_lt hp⟩
theorem bG (ha:Fq Tryz.prog T=some true) (hs:Fm Tryz.prog T=some n) {S0:St} {b:Nat} {cs:List AV} (h:Cur S p k ts i) (hb:Has p S b cs) (hl:cs.length=n) (hle:S0.next ≤ b) (x:Eb p S0 S) {xs:List AV} (hx:xs.length=n) :
  Dk Tryz.prog S T (.ptr b 0) (.agg xs)=some (S.put b xs) ∧ Ci Tryz.prog (S.put b xs) T (.ptr b 0)=some (.agg xs) ∧ Eb p S0 (S.put b xs) ∧ Cur (S.put b xs) p k ts i :=
 ⟨stG hs hb.get hl hx,ldG ha hs (Ef _ _ _) hx,Jf x hle _,h.put (fun e=>hb.ne e.symm) _⟩
end
theorem ag54:Fq Tryz.prog 54=some true:=by kernel_rfl
theorem gT:Fm Tryz.prog 54=some 6:=by kernel_rfl
def Oh:List AV:=[Bq [],Dl 0,.v (.bool false),.v (.bool false),Bq [],.v (.bool false)]
theorem Yr (S:St):Jt Tryz.prog S 54=some (.ptr S.next 0,S.newBox Oh):=by kernel_rfl
theorem ag59:Fq Tryz.prog 59=some true:=by kernel_rfl
theorem yJ:Fm Tryz.prog 59=some 2:=by kernel_rfl
def jA:List AV:=[Bq [],Dl 0]
theorem alo59 (S:St):Jt Tryz.prog S 59=some (.ptr S.next 0,S.newBox jA):=by kernel_rfl
structure PD where
 name:List UInt8
 pos:Nat
 bool:Bool
 fut:Bool
 clock:List UInt8
 off:Bool
def Fh (d:PD):List AV:=[Bq d.name,Dl d.pos,.v (.bool d.bool),.v (.bool d.fut),Bq d.clock,.v (.bool d.off)]
def F4 (d:PD):AV:=.agg (Fh d)
def mQ (v:AV) (d:PD):Prop:=v=F4 d
def Ik (d:List UInt8 × Nat):List AV:=[Bq d.1,Dl d.2]
def Hg (d:List UInt8 × Nat):AV:=.agg (Ik d)
def isLeft (v:AV) (d:List UInt8 × Nat):Prop:=v=Hg d
def Iq (ts:List Tk) (i:Nat):PR PD:=(Gi ts 1 i).bind fun t j=>(Ea ts [[58]] j).bind fun _ j=>if (tk ts j).text ∈ [[102,117,116,117,114,101]] then (Ea ts [[105,110,116],[98,111,111,108]] (j + 1)).bind fun u m=>.ok ⟨t.text,t.pos,decide (u.text=[98,111,111,108]),true,[],false⟩ m else (Ea ts [[105,110,116],[98,111,111,108]] j).bind fun u m=>.ok ⟨t.text,t.pos,decide (u.text=[98,111,111,108]),false,[],false⟩ m
def Gb (ts:List Tk) (i:Nat):PR PD:=(Iq ts i).bind fun d j=>if (tk ts j).text ∈ [[119,104,101,110]] then (Ip ts (j + 1)).bind fun c j=>(Ea ts [[59]] j).bind fun _ j=>.ok { d with clock:=c.1,off:=c.2 } j else (Ea ts [[59]] j).bind fun _ j=>.ok d j
def Ie (ts:List Tk) (i:Nat):PR (List UInt8 × Nat):=(Gi ts 1 i).bind fun t j=>.ok (t.text,t.pos) j
theorem mK (ts:List Tk) (i:Nat):Ie ts i ≠ .out:=by
 unfold Ie
 cases h:Gi ts 1 i with
 | out=>exact absurd h (Mi _ _ _)
 | bad a e=>exact fun e=>by cases e
 | ok a j=>exact fun e=>by cases e
theorem bV (ts:List Tk) (i:Nat):Iq ts i ≠ .out:=by
 unfold Iq
 cases h:Gi ts 1 i with
 | out=>exact absurd h (Mi _ _ _)
 | bad a e=>exact fun e=>by cases e
 | ok a j =>
  rw [Du]
  cases h:Ea ts [[58]] j with
  | out=>exact absurd h (Gp _ _ _)
  | bad a e=>exact fun e=>by cases e
  | ok a j =>
   rw [Du]
   split
   ·cases h:Ea ts [[105,110,116],[98,111,111,108]] (j + 1) with
    | out=>exact absurd h (Gp _ _ _)
    | bad a e=>exact fun e=>by cases e
    | ok a j=>exact fun e=>by cases e
   ·cases h:Ea ts [[105,110,116],[98,111,111,108]] j with
    | out=>exact absurd h (Gp _ _ _)
    | bad a e=>exact fun e=>by cases e
    | ok a j=>exact fun e=>by cases e
theorem tQ (ts:List Tk) (i:Nat):Ip ts i ≠ .out:=by
 unfold Ip
 split
 ·cases h:Gi ts 1 (i + 1) with
  | out=>exact absurd h (Mi _ _ _)
  | bad a e=>exact fun e=>by cases e
  | ok a j=>exact fun e=>by cases e
 ·cases h:Gi ts 1 i with
  | out=>exact absurd h (Mi _ _ _)
  | bad a e=>exact fun e=>by cases e
  | ok a j=>exact fun e=>by cases e
theorem gK (ts:List Tk) (i:Nat):Gb ts i ≠ .out:=by
 unfold Gb
 cases h:Iq ts i with
 | out=>exact absurd h (bV _ _)
 | bad a e=>exact fun e=>by cases e
 | ok a j =>
  rw [Du]
  split
  ·cases h:Ip ts (j + 1) with
   | out=>exact absurd h (tQ _ _)
   | bad a e=>exact fun e=>by cases e
   | ok a j =>
    rw [Du]
    cases h:Ea ts [[59]] j with
    | out=>exact absurd h (Gp _ _ _)
    | bad a e=>exact fun e=>by cases e
    | ok a j=>exact fun e=>by cases e
  ·cases h:Ea ts [[59]] j with
   | out=>exact absurd h (Gp _ _ _)
   | bad a e=>exact fun e=>by cases e
   | ok a j=>exact fun e=>by cases e
theorem b52 (x y:Bool):Gn Tryz.prog 52 [(0,.v (.bool x)),(1,.v (.bool y))]=some (.agg [.v (.bool x),.v (.bool y)]):=by kernel_rfl
theorem b54 (s:List UInt8) (a:Nat) (x y:Bool):Gn Tryz.prog 54 [(0,.v (.string ⟨⟨s⟩⟩)),(1,.v (.int .i64 (a:Int))),(2,.agg [.v (.bool x),.v (.bool y)])]=some (.agg (Fh ⟨s,a,x,y,[],false⟩)):=by kernel_rfl
theorem b59 (s:List UInt8) (a:Nat):Gn Tryz.prog 59 [(0,.v (.string ⟨⟨s⟩⟩)),(1,.v (.int .i64 (a:Int)))]=some (.agg (Ik (s,a))):=by kernel_rfl
def ConR {α:Type} (p k:Nat) (ts:List Tk) (fid:Nat) (Rep:AV → α → Prop) (x:Nat → PR α):Prop:=∀ S i,Cur S p k ts i → p < S.next → i < ts.length → WC E1 fid [.ptr p 0] S (Qv p k ts S Rep (x i))
theorem fd54_3 (b:Nat):C2 Tryz.prog 54 (.ptr b 0) 3=some (.ptr b 4):=by kernel_rfl
theorem fd54_4 (b:Nat):C2 Tryz.prog 54 (.ptr b 0) 4=some (.ptr b 5):=by kernel_rfl
theorem st54_clock {S:St} {id:Nat} {d:PD} (h:S.mem.get id=some (.box (Fh d))) (s:List UInt8):Dk Tryz.prog S 9 (.ptr id 4) (Bq s)=some (S.put id (Fh { d with clock:=s })):=by
 have h2:(Bq s).noTup=true:=rfl
 have h3:(Bq s).cells=[Bq s]:=rfl
 simp [Dk,h,s9,h2,h3,St.put,Fh]
theorem st54_off {S:St} {id:Nat} {d:PD} (h:S.mem.get id=some (.box (Fh d))) (o:Bool):Dk Tryz.prog S 4 (.ptr id 5) (.v (.bool o))=some (S.put id (Fh { d with off:=o })):=by
 have h2:(AV.v (.bool o)).noTup=true:=rfl
 have s4:Fm Tryz.prog 4=some 1:=by kernel_rfl
 simp [Dk,h,s4,h2,AV.cells,St.put,Fh]
section
variable {p k:Nat} {ts:List Tk} (hts:TokOk ts)
include hts
theorem left_p:ConR p k ts 180 isLeft (Ie ts):=fun S i h hp hi=>by
 obtain ⟨fn1,hf1⟩:=Rc
 refine Dt Tryz.f180 (by kernel_rfl) (by kernel_rfl) (by kernel_rfl) (by show (_:Nat) ≤ _;simp [Tryz.f180]) ?_
 unfold Ie
 obtain ⟨x1,c1,br,hp1⟩:=zY jA h hp
 have y2:=x1
 simp only [A6,Bk,A4,Bf,A7,Bd,Bh,Bb,A5,Ba,A8,Cd,A0,A1,Bo,B5,ofOpt,ofOptS,A9,Cg,Nat.reduceLT,Nat.reduceEqDiff,Aa,Ab,Ac,Ae,Aj,Ak,Tryz.f180,fp0,hf1,alo59]
 refine WC.mono (Vf c1 hp1 hi hts 1 (by decide)) ?_
 cases hX3:Gi ts 1 i with
 | out=>exact absurd hX3 (Mi _ _ _)
 | bad a e =>
  rintro _ ⟨S3,rfl,x3⟩
  simp only [Cc,Ch,B7]
  exact ⟨_,rfl,y2.trans x3⟩
 | ok a3 j3 =>
  rintro _ ⟨_,S3,rfl,rfl,x3,c3,hi3⟩
  have hp3:p < S3.next:=Nat.lt_of_lt_of_le hp1 x3.1
  have y4:=(y2).trans x3
  have br_4:=br.keep x3
  rw [Du]
  obtain ⟨S5,q5,x5,c5,bt,hp5⟩:=Fj c3 hp3 a3
  have y6:=(y4).trans x5
  have br_6:=br_4.keep x5
  have lp:=bt.pos
  have lt:=bt.text
  simp only [A6,Bk,A4,Bf,A7,Bd,Bm,Bs,Bb,Bl,A5,Ba,A8,A0,A1,ofOpt,ofOptS,Cg,Bv,Nat.reduceLT,Nat.reduceEqDiff,Aa,Ab,Ac,Gu,q5,fd1,fa2,lp,lt,b59]
  obtain ⟨g7,h7,gx,gc⟩:=bG ag59 yJ (S0:=S) c5 br_6 rfl (Nat.le_refl _) y6 (xs:=(Ik (a3.text,a3.pos))) rfl
  simp only [B0,A4,Bf,Bm,Bs,A0,A1,Cg,Bj,By,Bg,Cn,Nat.reduceEqDiff,Aa,Ab,g7,h7]
  exact ⟨_,_,rfl,rfl,gx,gc,hi3⟩
theorem decl_p:ConR p k ts 126 mQ (Iq ts):=fun S i h hp hi=>by
 obtain ⟨fn1,hf1⟩:=Rc
 obtain ⟨fn2,hf2⟩:=Ku
 obtain ⟨fn3,hf3⟩:=Pt
 refine Dt Tryz.f126 (by kernel_rfl) (by kernel_rfl) (by kernel_rfl) (by show (_:Nat) ≤ _;simp [Tryz.f126]) ?_
 unfold Iq
 obtain ⟨x1,c1,br,hp1⟩:=zY Oh h hp
 have y2:=x1
 simp only [A6,Bk,A4,Bf,A7,Bd,Bh,Bb,A5,Ba,A8,Cd,A0,A1,Bo,B5,ofOpt,ofOptS,A9,Cg,Nat.reduceLT,Nat.reduceEqDiff,Aa,Ab,Ac,Ae,Aj,Ak,Tryz.f126,fp0,hf1,Yr]
 refine WC.mono (Vf c1 hp1 hi hts 1 (by decide)) ?_
 cases hX3:Gi ts 1 i with
 | out=>exact absurd hX3 (Mi _ _ _)
 | bad a e =>
  rintro _ ⟨S3,rfl,x3⟩
  simp only [Cc,Ch,B7]
  exact ⟨_,rfl,y2.trans x3⟩
 | ok a3 j3 =>
  rintro _ ⟨_,S3,rfl,rfl,x3,c3,hi3⟩
  have hp3:p < S3.next:=Nat.lt_of_lt_of_le hp1 x3.1
  have y4:=(y2).trans x3
  have br_4:=br.keep x3
  rw [Du]
  obtain ⟨S5,q5,x5,c5,bt,hp5⟩:=Fj c3 hp3 a3
  have y6:=(y4).trans x5
  have br_6:=br_4.keep x5
  simp only [A6,Bk,A4,Bf,A7,Bd,Bm,Bh,Bs,Bb,Bl,A5,Ba,A8,A0,A1,Bo,B5,ofOpt,ofOptS,A9,Cg,Bv,Nat.reduceLT,Nat.reduceEqDiff,Aa,Ab,Ac,Aj,Ak,Gu,fp0,D7,hf3,q5]
  refine WC.mono (Ix c5 hp5 hi3 hts 1 0 [[58]] (by decide) (by decide)) ?_
  cases hX7:Ea ts [[58]] j3 with
  | out=>exact absurd hX7 (Gp _ _ _)
  | bad a e =>
   rintro _ ⟨S7,rfl,x7⟩
   simp only [Cc,Ch,B7]
   exact ⟨_,rfl,y6.trans x7⟩
  | ok a7 j7 =>
   rintro _ ⟨_,S7,rfl,rfl,x7,c7,hi7⟩
   have hp7:p < S7.next:=Nat.lt_of_lt_of_le hp5 x7.1
   have y8:=(y6).trans x7
   have br_8:=br_6.keep x7
   have bt_8:=bt.keep x7
   rw [Du]
   by_cases hm:(tk ts j7).text ∈ [[102,117,116,117,114,101]]
   ·rw [if_pos hm]
    simp only [A6,Bk,A4,Bf,A7,Bd,Bh,Bb,Bl,A5,Ba,A8,A0,A1,Bo,B5,ofOpt,A9,Cg,Bv,Nat.reduceLT,Nat.reduceEqDiff,Aa,Ab,Ac,Aj,Ak,fp0,D7,hf2]
    refine WC.mono (Lf c7 hp7 hi7 hts 1 0 [[102,117,116,117,114,101]] (by decide) (by decide) hm) ?_
    rintro _ ⟨S9,rfl,x9,c9,hi9,hp9⟩
    have y10:=(y8).trans x9
    have br_10:=br_8.keep x9
    have bt_10:=bt_8.keep x9
    obtain ⟨S11,q11,x11,c11,bf,hp11⟩:=Fj c9 hp9 (tk ts j7)
    have y12:=(y10).trans x11
    have br_12:=br_10.keep x11
    have bt_12:=bt_10.keep x11
    simp only [A6,Bk,A4,Bf,A7,Bd,Bm,Bh,Bs,Bb,Bl,A5,Ba,A8,A0,A1,Bo,B5,ofOpt,ofOptS,A9,Cg,Bv,Nat.reduceLT,Nat.reduceEqDiff,Aa,Ab,Ac,Ag,Ah,Aj,Ak,Gu,fp0,Cp,Xm,hf3,q11]
    refine WC.mono (Ix c11 hp11 hi9 hts 1 0 [[105,110,116],[98,111,111,108]] (by decide) (by decide)) ?_
    cases hX13:Ea ts [[105,110,116],[98,111,111,108]] (j7 + 1) with
    | out=>exact absurd hX13 (Gp _ _ _)
    | bad a e =>
     rintro _ ⟨S13,rfl,x13⟩
     simp only [Cc,Ch,B7]
     exact ⟨_,rfl,y12.trans x13⟩
    | ok a13 j13 =>
     rintro _ ⟨_,S13,rfl,rfl,x13,c13,hi13⟩
     have hp13:p < S13.next:=Nat.lt_of_lt_of_le hp11 x13.1
     have y14:=(y12).trans x13
     have br_14:=br_12.keep x13
     have bt_14:=bt_12.keep x13
     have bf_14:=bf.keep x13
     rw [Du]
     obtain ⟨S15,q15,x15,c15,bu,hp15⟩:=Fj c13 hp13 a13
     have y16:=(y14).trans x15
     have br_16:=br_14.keep x15
     have bt_16:=bt_14.keep x15
     have bf_16:=bf_14.keep x15
     have lp:=bt_16.pos
     have lt:=bt_16.text
     have lu:=bu.text
     simp only [A6,Bk,A4,Bf,A7,Bd,Bm,Bs,Bb,Bl,A5,Ba,A8,A0,A1,ofOpt,ofOptS,A9,Cg,Bv,Nat.reduceLT,Nat.reduceEqDiff,Aa,Ab,Ac,Am,Gu,q15,fd1,fa2,lp,lt,lu,Cw,Vk,b52,b54]
     obtain ⟨g17,h17,gx,gc⟩:=bG ag54 gT (S0:=S) c15 br_16 rfl (Nat.le_refl _) y16 (xs:=(Fh ⟨a3.text,a3.pos,decide (a13.text=[98,111,111,108]),true,[],false⟩)) rfl
     simp only [B0,A4,Bf,Bm,Bs,A0,A1,Cg,Bj,By,Bg,Cn,Nat.reduceEqDiff,Aa,Ab,g17,h17]
     exact ⟨_,_,rfl,rfl,gx,gc,hi13⟩
   ·rw [if_neg hm]
    simp only [A6,Bk,A4,Bf,A7,Bd,Bh,Bb,Bl,A5,Ba,A8,A0,A1,Bo,B5,ofOpt,A9,Cg,Bv,Nat.reduceLT,Nat.reduceEqDiff,Aa,Ab,Ac,Aj,Ak,fp0,D7,hf2]
    refine WC.mono (Mm c7 hp7 hi7 hts 1 0 [[102,117,116,117,114,101]] (by decide) hm) ?_
    rintro _ ⟨S18,rfl,x18,c18,hi18,hp18⟩
    have y19:=(y8).trans x18
    have br_19:=br_8.keep x18
    have bt_19:=bt_8.keep x18
    obtain ⟨S20,q20,x20,c20,bf,hp20⟩:=Fj c18 hp18 D5
    have y21:=(y19).trans x20
    have br_21:=br_19.keep x20
    have bt_21:=bt_19.keep x20
    simp only [A6,Bk,A4,Bf,A7,Bd,Bm,Bh,Bs,Bb,Bl,A5,Ba,A8,A0,A1,Bo,B5,ofOpt,ofOptS,A9,Cg,Bv,Nat.reduceLT,Nat.reduceEqDiff,Aa,Ab,Ac,Ag,Ah,Aj,Ak,Gu,fp0,Cp,Xm,hf3,q20]
    refine WC.mono (Ix c20 hp20 hi18 hts 1 0 [[105,110,116],[98,111,111,108]] (by decide) (by decide)) ?_
    cases hX22:Ea ts [[105,110,116],[98,111,111,108]] j7 with
    | out=>exact absurd hX22 (Gp _ _ _)
    | bad a e =>
     rintro _ ⟨S22,rfl,x22⟩
     simp only [Cc,Ch,B7]
     exact ⟨_,rfl,y21.trans x22⟩
    | ok a22 j22 =>
     rintro _ ⟨_,S22,rfl,rfl,x22,c22,hi22⟩
     have hp22:p < S22.next:=Nat.lt_of_lt_of_le hp20 x22.1
     have y23:=(y21).trans x22
     have br_23:=br_21.keep x22
     have bt_23:=bt_21.keep x22
     have bf_23:=bf.keep x22
     rw [Du]
     obtain ⟨S24,q24,x24,c24,bu,hp24⟩:=Fj c22 hp22 a22
     have y25:=(y23).trans x24
     have br_25:=br_23.keep x24
     have bt_25:=bt_23.keep x24
     have bf_25:=bf_23.keep x24
     have lp:=bt_25.pos
     have lt:=bt_25.text
     have lu:=bu.text
     simp only [A6,Bk,A4,Bf,A7,Bd,Bm,Bs,Bb,Bl,A5,Ba,A8,A0,A1,ofOpt,ofOptS,A9,Cg,Bv,Nat.reduceLT,Nat.reduceEqDiff,Aa,Ab,Ac,Am,Gu,q24,fd1,fa2,lp,lt,lu,Cw,Vk,b52,b54]
     obtain ⟨g26,h26,gx,gc⟩:=bG ag54 gT (S0:=S) c24 br_25 rfl (Nat.le_refl _) y25 (xs:=(Fh ⟨a3.text,a3.pos,decide (a22.text=[98,111,111,108]),false,[],false⟩)) rfl
     simp only [B0,A4,Bf,Bm,Bs,A0,A1,Cg,Bj,By,Bg,Cn,Nat.reduceEqDiff,Aa,Ab,g26,h26]
     exact ⟨_,_,rfl,rfl,gx,gc,hi22⟩
theorem tM:ConR p k ts 157 mQ (Gb ts):=fun S i h hp hi=>by
 obtain ⟨fn1,hf1⟩:=wN
 obtain ⟨fn2,hf2⟩:=Ku
 obtain ⟨fn3,hf3⟩:=fnOk179
 obtain ⟨fn4,hf4⟩:=Pt
 refine Dt Tryz.f157 (by kernel_rfl) (by kernel_rfl) (by kernel_rfl) (by show (_:Nat) ≤ _;simp [Tryz.f157]) ?_
 unfold Gb
 obtain ⟨x1,c1,br,hp1⟩:=zY Oh h hp
 have y2:=x1
 simp only [A6,Bk,A4,Bf,A7,Bd,Bh,Bb,A5,Ba,A8,Cd,A0,A1,Bo,B5,ofOpt,ofOptS,Cg,Nat.reduceLT,Nat.reduceEqDiff,Aa,Ab,Ac,Ae,Aj,Ak,Tryz.f157,hf1,Yr]
 refine WC.mono (decl_p hts _ _ c1 hp1 hi) ?_
 cases hX3:Iq ts i with
 | out=>exact absurd hX3 (bV _ _)
 | bad a e =>
  rintro _ ⟨S3,rfl,x3⟩
  simp only [Cc,Ch,B7]
  exact ⟨_,rfl,y2.trans x3⟩
 | ok a3 j3 =>
  rintro _ ⟨_,S3,rfl,rfl,x3,c3,hi3⟩
  have hp3:p < S3.next:=Nat.lt_of_lt_of_le hp1 x3.1
  have y4:=(y2).trans x3
  have br_4:=br.keep x3
  rw [Du]
  have hda:F4 a3=.agg (Fh a3):=rfl
  obtain ⟨S5,q5,x5,c5,bd,hp5⟩:=boxG2 gT Oh rfl c3 hp3 (xs:=Fh a3) rfl
  have y6:=(y4).trans x5
  have br_6:=br_4.keep x5
  by_cases hm:(tk ts j3).text ∈ [[119,104,101,110]]
  ·rw [if_pos hm]
   simp only [A6,Bk,A4,Bf,A7,Bd,Bm,Bh,Bs,Bb,Bl,A5,Ba,A8,A0,A1,Bo,B5,ofOpt,ofOptS,A9,Cg,Bv,Nat.reduceLT,Nat.reduceEqDiff,Aa,Ab,Ac,Aj,Ak,fp0,D7,hf2,Yr,hda,q5]
   refine WC.mono (Lf c5 hp5 hi3 hts 1 0 [[119,104,101,110]] (by decide) (by decide) hm) ?_
   rintro _ ⟨S7,rfl,x7,c7,hi7,hp7⟩
   have y8:=(y6).trans x7
   have br_8:=br_6.keep x7
   have bd_8:=bd.keep x7
   obtain ⟨S9,q9,x9,c9,bt,hp9⟩:=Fj c7 hp7 (tk ts j3)
   have y10:=(y8).trans x9
   have br_10:=br_8.keep x9
   have bd_10:=bd_8.keep x9
   simp only [Bp,A6,Bk,Bn,A4,Bf,A7,Bd,Bm,Bh,Bs,Bb,Bl,C7,A5,Ba,A8,A0,A1,Bo,B5,ofOpt,ofOptS,A9,Cg,Bv,Nat.reduceLT,Nat.reduceEqDiff,Aa,Ab,Ac,Ag,Ah,Aj,Ak,Gu,fp0,Cp,D7,hf3,hf4,q9]
   have hne:S3.next ≠ S.next:=by have:=br_4.lt; omega
   refine WC.mono (clock_p _ _ _ _ _ c9 hp9 hi7 hts) ?_
   cases hX11:Ip ts (j3 + 1) with
   | out=>exact absurd hX11 (tQ _ _)
   | bad a e =>
    rintro _ ⟨S11,rfl,x11⟩
    simp only [Cc,Ch,B7]
    exact ⟨_,rfl,y10.trans x11⟩
   | ok a11 j11 =>
    rintro _ ⟨_,S11,rfl,rfl,x11,c11,hi11⟩
    have hp11:p < S11.next:=Nat.lt_of_lt_of_le hp9 x11.1
    have y12:=(y10).trans x11
    have br_12:=br_10.keep x11
    have bd_12:=bd_10.keep x11
    have bt_12:=bt.keep x11
    rw [Du]
    have st901:=st54_clock bd_12.get a11.1
    obtain ⟨px901,pc901,pb901,pr901⟩:=Yc (ys:=Fh { a3 with clock:=a11.1 }) y12 y4.1 bd_12 c11 br_12 hne
    have st902:=st54_off (d:={ a3 with clock:=a11.1 }) pb901.get a11.2
    obtain ⟨px902,pc902,pb902,pr902⟩:=Yc (ys:=Fh { a3 with clock:=a11.1,off:=a11.2 }) px901 y4.1 pb901 pc901 pr901 hne
    simp only [A6,Bk,A4,Bf,A7,Bd,Bm,Bh,Bs,Bb,Bl,A5,Ba,A8,A0,A1,Bo,B5,ofOpt,A9,Cg,Bv,Nat.reduceLT,Nat.reduceEqDiff,Aa,Ab,Ac,Ag,Ah,Aj,Ak,fp0,Cp,D7,hf4,fd54_3,fd54_4,st901,st902]
    refine WC.mono (Ix pc902 hp11 hi11 hts 1 0 [[59]] (by decide) (by decide)) ?_
    cases hX13:Ea ts [[59]] j11 with
    | out=>exact absurd hX13 (Gp _ _ _)
    | bad a e =>
     rintro _ ⟨S13,rfl,x13⟩
     simp only [Cc,Ch,B7]
     exact ⟨_,rfl,px902.trans x13⟩
    | ok a13 j13 =>
     rintro _ ⟨_,S13,rfl,rfl,x13,c13,hi13⟩
     have hp13:p < S13.next:=Nat.lt_of_lt_of_le hp11 x13.1
     have y14:=(px902).trans x13
     have bd_14:=pb902.keep x13
     have br_14:=pr902.keep x13
     rw [Du]
     have l15:=ldG ag54 gT bd_14.get rfl
     obtain ⟨g16,h16,gx,gc⟩:=bG ag54 gT (S0:=S) c13 br_14 rfl (Nat.le_refl _) y14 (xs:=(Fh { a3 with clock:=a11.1,off:=a11.2 })) rfl
     simp only [A6,Bk,B0,A4,Bf,A7,Bd,Bm,Bs,Bb,Bl,A5,Ba,A8,A0,A1,ofOpt,Cg,Bj,By,Bg,Cn,Nat.reduceLT,Nat.reduceEqDiff,Aa,Ab,Ac,l15,g16,h16]
     exact ⟨_,_,rfl,rfl,gx,gc,hi13⟩
  ·rw [if_neg hm]
   simp only [A6,Bk,A4,Bf,A7,Bd,Bm,Bh,Bs,Bb,Bl,A5,Ba,A8,A0,A1,Bo,B5,ofOpt,ofOptS,A9,Cg,Bv,Nat.reduceLT,Nat.reduceEqDiff,Aa,Ab,Ac,Aj,Ak,fp0,D7,hf2,Yr,hda,q5]
   refine WC.mono (Mm c5 hp5 hi3 hts 1 0 [[119,104,101,110]] (by decide) hm) ?_
   rintro _ ⟨S17,rfl,x17,c17,hi17,hp17⟩
   have y18:=(y6).trans x17
   have br_18:=br_6.keep x17
   have bd_18:=bd.keep x17
   obtain ⟨S19,q19,x19,c19,bt,hp19⟩:=Fj c17 hp17 D5
   have y20:=(y18).trans x19
   have br_20:=br_18.keep x19
   have bd_20:=bd_18.keep x19
   simp only [Bp,A6,Bk,Bn,A4,Bf,A7,Bd,Bm,Bh,Bs,Bb,Bl,C1,A5,Ba,A8,A0,A1,Bo,B5,ofOpt,ofOptS,A9,Cg,Bv,Nat.reduceLT,Nat.reduceEqDiff,Aa,Ab,Ac,Ag,Ah,Aj,Ak,Gu,fp0,Cp,D7,hf3,hf4,q19]
   refine WC.mono (Ix c19 hp19 hi17 hts 1 0 [[59]] (by decide) (by decide)) ?_
   cases hX21:Ea ts [[59]] j3 with
   | out=>exact absurd hX21 (Gp _ _ _)
   | bad a e =>
    rintro _ ⟨S21,rfl,x21⟩
    simp only [Cc,Ch,B7]
    exact ⟨_,rfl,y20.trans x21⟩
   | ok a21 j21 =>
    rintro _ ⟨_,S21,rfl,rfl,x21,c21,hi21⟩
    have hp21:p < S21.next:=Nat.lt_of_lt_of_le hp19 x21.1
    have y22:=(y20).trans x21
    have br_22:=br_20.keep x21
    have bd_22:=bd_20.keep x21
    have bt_22:=bt.keep x21
    rw [Du]
    have l23:=ldG ag54 gT bd_22.get rfl
    obtain ⟨g24,h24,gx,gc⟩:=bG ag54 gT (S0:=S) c21 br_22 rfl (Nat.le_refl _) y22 (xs:=(Fh a3)) rfl
    simp only [A6,Bk,B0,A4,Bf,A7,Bd,Bm,Bs,Bb,Bl,A5,Ba,A8,A0,A1,ofOpt,Cg,Bj,By,Bg,Cn,Nat.reduceLT,Nat.reduceEqDiff,Aa,Ab,Ac,l23,g24,h24]
    exact ⟨_,_,rfl,rfl,gx,gc,hi21⟩
omit hts
end
def Hj {α:Type} (ts:List Tk) (kid:Nat → PR α):Nat → List α → Nat → PR (List α)
 | 0,_,_=>.out
 | n + 1,l,i=>if (tk ts i).text ∈ [[44]] then (kid (i + 1)).bind fun y j=>Hj ts kid n (l ++ [y]) j else (Ea ts [[41]] i).bind fun _ j=>.ok l j
def Kb {α:Type} (ts:List Tk) (kid:Nat → PR α) (n i:Nat):PR (List α):=(Ea ts [[40]] i).bind fun _ j=>if (tk ts j).text ∈ [[41]] then .ok [] (j + 1) else (kid j).bind fun x m=>Hj ts kid n [x] m
def Xe (sz lo:Nat) (S:St) (tok:Nat) (es:List AV):Prop:=tok=1 ∨ (2 ≤ tok ∧ lo ≤ tok ∧ tok < S.next ∧ S.mem.get tok=some (.tip (es.length * sz)))
theorem Xe.keep {sz lo p:Nat} {S S':St} {tok:Nat} {es:List AV} (h:Xe sz lo S tok es) (k:Eb p S S') (hp:p < lo):Xe sz lo S' tok es:=by
 rcases h with h | ⟨h1,h2,h3,h4⟩
 ·exact .inl h
 ·exact .inr ⟨h1,h2,Nat.lt_of_lt_of_le h3 k.1,by rw [k.2 tok h3 (by omega)]; exact h4⟩
def Hq {α:Type} (sz:Nat) (A:α → AV) (v:AV) (l:List α):Prop:=(v=.nils ∧ l=[]) ∨ ∃ tok off,v=.sl tok off sz (l.map A)
theorem i54:(Tryz.prog.info? 54).map (fun i=>(i.zero,i.size,i.bytes))=some (some (.agg #[.string ⟨#[]⟩,.int .i64 0,.bool false,.bool false,.string ⟨#[]⟩,.bool false]),6,56):=by kernel_rfl
theorem el46:Ih Tryz.prog 46=some (none,54):=by kernel_rfl
theorem un46:Tryz.prog.underlying 46=some (.slice 54):=by kernel_rfl
theorem app46 (S:St) (a b:AV):Hl E1 S 46 46 a b=Fo Tryz.prog S 46 46 a b:=rfl
theorem zr54:L3 Tryz.prog 54=some (.agg Oh):=by kernel_rfl
theorem iC (xs:List AV) (hx:xs.length=6):Do Tryz.prog 46 1 [(0,.agg xs)]=some (.sl 1 0 6 [.agg xs]):=by
 simp [Do,el46,gT,zr54,Ca,Cb,hx]
theorem push46 {lo:Nat} {S:St} {tok:Nat} {es:List AV} (h:Xe 6 lo S tok es) (hn:2 ≤ S.next) (hlo:lo ≤ S.next) (xs:List AV) (hx:xs.length=6) (hl:es.length ≤ 2000000) :
  ∃ S',Hl E1 S 46 46 (.sl tok 0 6 es) (.sl 1 0 6 [.agg xs])=some (.sl S.next 0 6 (es ++ [.agg xs]),S') ∧ Xe 6 lo S' S.next (es ++ [.agg xs]) ∧ S.next ≤ S'.next ∧ ∀ id,id < lo → S'.mem.get id=S.mem.get id:=by
 obtain ⟨i,hi,hz0,hz1,hz2⟩:=Hs i54
 have hb1:(es.length + 1) * 56 ≤ 140737488355328:=by omega
 have hb2:es.length + 1 ≤ 9223372036854775807:=by omega
 rw [app46]
 rcases h with rfl | ⟨h1,h2,h3,h5⟩
 ·refine ⟨S.grown 1 ((es ++ [AV.agg xs]).length * 6),?_,.inr ⟨hn,hlo,Nat.lt_succ_self _,?_⟩,Nat.le_succ _,fun id hid=>?_⟩
  ·simp [Fo,el46,hi,hz0,hz1,hz2,Nr,un46,Value.cells,Qb,hb1,hb2]
  ·show (S.mem.set S.next _).get S.next=_
   rw [T.get_set,if_pos rfl]
  ·show (S.mem.set S.next _).get id=_
   rw [T.get_set,if_neg (by omega)]
 ·obtain ⟨k,rfl⟩:∃ k,tok=k + 2:=⟨tok - 2,by omega⟩
  refine ⟨S.grown (k + 2) ((es ++ [AV.agg xs]).length * 6),?_,.inr ⟨hn,hlo,Nat.lt_succ_self _,?_⟩,Nat.le_succ _,fun id hid=>?_⟩
  ·simp [Fo,el46,hi,hz0,hz1,hz2,Nr,un46,Value.cells,Qb,h5,hb1,hb2]
  ·show ((S.mem.set (k + 2) none).set S.next _).get S.next=_
   rw [T.get_set,if_pos rfl]
  ·show ((S.mem.set (k + 2) none).set S.next _).get id=_
   rw [T.get_set,if_neg (by omega),T.get_set,if_neg (by omega)]
def Wg:Code:=match Tryz.f156.body with
 | some (.seq _ (.seq _ (.seq (.block _ (.loop c)) _)))=>c
 | _=>.skip
def LoopRow156 (p k:Nat) (ts:List Tk) (S0:St) (x:PR (List PD)) (r:O):Prop :=
 (∃ t' S' tok l i',r=.out (.exit 0) ⟨t',[]⟩ S' ∧ t'.get 0=some (.ptr p 0) ∧ t'.get 5=some (.sl tok 0 6 (l.map F4)) ∧ Eb p S0 S' ∧ Cur S' p k ts i' ∧ i' < ts.length ∧ p < S'.next ∧ x=(Ea ts [[41]] i').bind fun _ j=>.ok l j) ∨
 (∃ t' S' a e,r=.out (.pan (Ye a e)) ⟨t',[]⟩ S' ∧ Eb p S0 S' ∧ x=.bad a e)
section
variable {p k:Nat} {ts:List Tk} (hts:TokOk ts)
include hts
theorem aB (h2p:2 ≤ p) (m:Nat) (kid:Nat → PR PD) (hkn:∀ i,kid i ≠ .out) (hF:∃ fn,E1.F m=some fn) (hkid:ConR p k ts m mQ kid) (S0:St) (hp0:p < S0.next):∀ (n:Nat) (l:List PD) (i:Nat) (t:T AV) (S:St) (tok:Nat),Hj ts kid n l i ≠ .out → n + l.length ≤ 2000000 →
  t.get 0=some (.ptr p 0) → t.get 1=some (Pc m p) → t.get 5=some (.sl tok 0 6 (l.map F4)) → Cur S p k ts i → p < S.next → i < ts.length → Xe 6 S0.next S tok (l.map F4) → Eb p S0 S →
  WX E1 32 (.loop Wg) ⟨t,[]⟩ S (LoopRow156 p k ts S0 (Hj ts kid n l i))
 | 0,l,i,t,S,tok,ho,hnl,h0,h1,h5,h,hp,hi,hr,hx=>absurd rfl ho
 | n + 1,l,i,t,S,tok,ho,hnl,h0,h1,h5,h,hp,hi,hr,hx=>by
  refine D2 (Ds ?_)
  obtain ⟨fn1,hf1⟩:=Ku
  obtain ⟨fn2,hf2⟩:=hF
  unfold Pc at h1
  have eP:Hj ts kid (n + 1) l i=if (tk ts i).text ∈ [[44]] then (kid (i + 1)).bind fun y j=>Hj ts kid n (l ++ [y]) j else (Ea ts [[41]] i).bind fun _ j=>.ok l j:=rfl
  rw [eP] at ho ⊢
  clear eP
  by_cases hm:(tk ts i).text ∈ [[44]]
  ·rw [if_pos hm] at ho ⊢
   simp only [A6,Bk,Bt,A7,Bd,Bh,Bb,A5,Ba,A8,A0,Bo,B5,ofOpt,A9,Cg,Bv,Nat.reduceLT,Nat.reduceEqDiff,Aa,Ab,Ac,Aj,Ak,Tryz.f156,fp0,D7,hf1,h0,Wg]
   refine WC.mono (Lf h hp hi hts 1 0 [[44]] (by decide) (by decide) hm) ?_
   rintro _ ⟨S1,rfl,x1,c1,hi1,hp1⟩
   have y2:=(hx).trans x1
   obtain ⟨S3,q3,x3,c3,bt,hp3⟩:=Fj c1 hp1 (tk ts i)
   have y4:=(y2).trans x3
   simp only [Bw,Bz,Bp,A6,Bk,Bn,C9,A4,C0,Cv,Bf,A7,Bd,Bm,Bh,Bs,Bb,Bl,C1,A5,Ba,A8,A0,Bo,B5,ofOpt,ofOptS,Cg,Fd,Cy,C8,Nat.reduceLT,Nat.reduceEqDiff,Aa,Ab,Ac,Ag,Ah,Ak,Ar,Gu,Cp,hf2,h1,h5,q3]
   refine WC.mono (hkid _ _ c3 hp3 hi1) ?_
   cases hX5:kid (i + 1) with
   | out=>exact absurd hX5 (hkn _)
   | bad a e =>
    rintro _ ⟨S5,rfl,x5⟩
    simp only [Dj,C5,Ch]
    exact .inr ⟨_,_,_,_,rfl,y4.trans x5,rfl⟩
   | ok a5 j5 =>
    rw [hX5] at ho; rw [Du] at ho ⊢
    rintro _ ⟨_,S5,rfl,rfl,x5,c5,hi5⟩
    have hp5:p < S5.next:=Nat.lt_of_lt_of_le hp3 x5.1
    have y6:=(y4).trans x5
    have bt_6:=bt.keep x5
    have hda:F4 a5=.agg (Fh a5):=rfl
    have l7:=iC (Fh a5) rfl
    have hr2:Xe 6 S0.next S5 tok (l.map F4):=hr.keep (((x1).trans x3).trans x5:Eb p S S5) hp0
    have hle:=y6.1
    obtain ⟨S8,a8,r8,n8,k8⟩:=push46 hr2 (by omega) hle (Fh a5) rfl (by rw [List.length_map]; omega)
    have z8:Eb p S0 S8:=⟨Nat.le_trans hle n8,fun id hid hn=>(k8 id hid).trans (y6.2 id hid hn)⟩
    have cc8:Cur S8 p k ts j5:=(k8 p hp0).trans c5
    have em:l.map F4 ++ [AV.agg (Fh a5)]=(l ++ [a5]).map F4:=by rw [List.map_append]; rfl
    rw [em] at a8 r8
    simp only [Bw,B6,Bf,A7,Bd,Bb,Bl,A5,Ba,A8,A0,Bo,ofOpt,ofOptS,Cg,Bv,Nat.reduceLT,Nat.reduceEqDiff,Aa,Ab,Ac,hda,l7,a8]
    exact aB h2p m kid hkn ⟨_,hf2⟩ hkid S0 hp0 n _ _ _ _ _ ho (by rw [List.length_append]; simp; omega) (by simp [T.get_set,h0]) (by simp [T.get_set,h1,Pc]) (by simp [T.get_set]) cc8 (by omega) hi5 r8 z8
  ·rw [if_neg hm] at ho ⊢
   simp only [A6,Bk,Bt,A7,Bd,Bh,Bb,A5,Ba,A8,A0,Bo,B5,ofOpt,A9,Cg,Bv,Nat.reduceLT,Nat.reduceEqDiff,Aa,Ab,Ac,Aj,Ak,Tryz.f156,fp0,D7,hf1,h0,Wg]
   refine WC.mono (Mm h hp hi hts 1 0 [[44]] (by decide) hm) ?_
   rintro _ ⟨S9,rfl,x9,c9,hi9,hp9⟩
   have y10:=(hx).trans x9
   obtain ⟨S11,q11,x11,c11,bt,hp11⟩:=Fj c9 hp9 D5
   have y12:=(y10).trans x11
   simp only [Bw,Bz,Bp,A6,Bk,Bn,C9,A4,C0,Cv,Bf,A7,Bd,Bm,Bh,Bs,Bb,Bl,C7,A5,Ba,A8,A0,Bo,B5,ofOpt,ofOptS,Cg,Fd,Cy,C8,Nat.reduceLT,Nat.reduceEqDiff,Aa,Ab,Ac,Ag,Ah,Ak,Au,Gu,Cp,hf2,h1,h5,q11]
   exact .inl ⟨_,_,tok,l,i,rfl,by simp [T.get_set,h0],by simp [T.get_set,h5],y12,c11,hi9,hp11,rfl⟩
theorem rest_p156 (h2p:2 ≤ p) (m:Nat) (kid:Nat → PR PD) (hkn:∀ i,kid i ≠ .out) (hF:∃ fn,E1.F m=some fn) (hkid:ConR p k ts m mQ kid) (n:Nat) (hn:n ≤ 1000000) (S:St) (i:Nat) (h:Cur S p k ts i) (hp:p < S.next) (hi:i < ts.length) (ho:((kid i).bind fun x j=>Hj ts kid n [x] j) ≠ .out):WC E1 156 [.ptr p 0,Pc m p] S (Qv p k ts S (Hq 6 F4) ((kid i).bind fun x j=>Hj ts kid n [x] j)):=by
 refine Dt Tryz.f156 (by kernel_rfl) (by kernel_rfl) (by kernel_rfl) (by show (_:Nat) ≤ _;simp [Tryz.f156]) ?_
 obtain ⟨fn2,hf2⟩:=hF
 obtain ⟨fn3,hf3⟩:=Pt
 simp only [A6,Bk,A4,Bf,A7,Bd,Bh,Bb,A5,Ba,A8,Cd,A0,A1,Bo,B5,ofOpt,A9,Nat.reduceLT,Nat.reduceAdd,Nat.reduceEqDiff,Aa,Ab,Ac,Ae,Ak,Tryz.f156,hf2,Pc]
 refine WC.mono (hkid _ _ h hp hi) ?_
 cases hX1:kid i with
 | out=>exact absurd hX1 (hkn _)
 | bad a e =>
  rintro _ ⟨S1,rfl,x1⟩
  simp only [Cc,Ch,B7]
  exact ⟨_,rfl,x1⟩
 | ok a1 j1 =>
  rw [hX1] at ho; rw [Du] at ho ⊢
  rintro _ ⟨_,S1,rfl,rfl,x1,c1,hi1⟩
  have hp1:p < S1.next:=Nat.lt_of_lt_of_le hp x1.1
  have y2:=x1
  have hda:F4 a1=.agg (Fh a1):=rfl
  have l3:=iC (Fh a1) rfl
  simp only [Bk,Bt,D0,A4,Bf,A7,Bd,Bb,Bl,A5,Ba,A8,A0,A1,ofOpt,Cg,Bv,Nat.reduceLT,Nat.reduceEqDiff,Aa,Ab,Ac,hda,l3]
  refine WX.mono (aB hts h2p m kid hkn ⟨_,hf2⟩ hkid S hp n [a1] j1 _ _ 1 ho (by simp; omega) (by simp [T.get_set]) (by simp [T.get_set,Pc]) (by simp [T.get_set,hda]) c1 hp1 hi1 (.inl rfl) y2) ?_
  rintro _ (⟨t9,S9,tok9,l9,i9,rfl,g0,g5,x9,c9,hi9,hp9,e9⟩ | ⟨t9,S9,a9,e9,rfl,x9,q9⟩)
  ·rw [e9]
   simp only [A6,Bk,A4,C0,Cv,A7,Bd,Bh,Bb,A5,Ba,A8,A0,Bo,B5,ofOpt,A9,Cg,Bv,Nat.reduceLT,Nat.reduceEqDiff,Aa,Ab,Ac,Aj,Ak,fp0,D7,hf3,g0]
   refine WC.mono (Ix c9 hp9 hi9 hts 1 0 [[41]] (by decide) (by decide)) ?_
   cases hX4:Ea ts [[41]] i9 with
   | out=>exact absurd hX4 (Gp _ _ _)
   | bad a e =>
    rintro _ ⟨S4,rfl,x4⟩
    simp only [Cc,Ch,B7]
    exact ⟨_,rfl,x9.trans x4⟩
   | ok a4 j4 =>
    rintro _ ⟨_,S4,rfl,rfl,x4,c4,hi4⟩
    have hp4:p < S4.next:=Nat.lt_of_lt_of_le hp9 x4.1
    have y5:=(x9).trans x4
    simp only [A6,Bk,B0,A4,Bf,A7,Bd,Bb,Bl,A5,Ba,A8,A0,ofOpt,Bj,By,Bg,Cn,Nat.reduceLT,Nat.reduceEqDiff,Aa,Ab,Ac,g5]
    exact ⟨_,_,rfl,.inr ⟨_,_,rfl⟩,y5,c4,hi4⟩
  ·rw [q9]
   simp only [Cc,C5,B7]
   exact ⟨_,rfl,x9⟩
end
theorem i59:(Tryz.prog.info? 59).map (fun i=>(i.zero,i.size,i.bytes))=some (some (.agg #[.string ⟨#[]⟩,.int .i64 0]),2,24):=by kernel_rfl
theorem el55:Ih Tryz.prog 55=some (none,59):=by kernel_rfl
theorem xX:Tryz.prog.underlying 55=some (.slice 59):=by kernel_rfl
theorem app55 (S:St) (a b:AV):Hl E1 S 55 55 a b=Fo Tryz.prog S 55 55 a b:=rfl
theorem zr59:L3 Tryz.prog 59=some (.agg jA):=by kernel_rfl
theorem iB (xs:List AV) (hx:xs.length=2):Do Tryz.prog 55 1 [(0,.agg xs)]=some (.sl 1 0 2 [.agg xs]):=by
 simp [Do,el55,yJ,zr59,Ca,Cb,hx]
theorem push55 {lo:Nat} {S:St} {tok:Nat} {es:List AV} (h:Xe 2 lo S tok es) (hn:2 ≤ S.next) (hlo:lo ≤ S.next) (xs:List AV) (hx:xs.length=2) (hl:es.length ≤ 2000000) :
  ∃ S',Hl E1 S 55 55 (.sl tok 0 2 es) (.sl 1 0 2 [.agg xs])=some (.sl S.next 0 2 (es ++ [.agg xs]),S') ∧ Xe 2 lo S' S.next (es ++ [.agg xs]) ∧ S.next ≤ S'.next ∧ ∀ id,id < lo → S'.mem.get id=S.mem.get id:=by
 obtain ⟨i,hi,hz0,hz1,hz2⟩:=Hs i59
 have hb1:(es.length + 1) * 24 ≤ 140737488355328:=by omega
 have hb2:es.length + 1 ≤ 9223372036854775807:=by omega
 rw [app55]
 rcases h with rfl | ⟨h1,h2,h3,h5⟩
 ·refine ⟨S.grown 1 ((es ++ [AV.agg xs]).length * 2),?_,.inr ⟨hn,hlo,Nat.lt_succ_self _,?_⟩,Nat.le_succ _,fun id hid=>?_⟩
  ·simp [Fo,el55,hi,hz0,hz1,hz2,Nr,xX,Value.cells,Qb,hb1,hb2]
  ·show (S.mem.set S.next _).get S.next=_
   rw [T.get_set,if_pos rfl]
  ·show (S.mem.set S.next _).get id=_
   rw [T.get_set,if_neg (by omega)]
 ·obtain ⟨k,rfl⟩:∃ k,tok=k + 2:=⟨tok - 2,by omega⟩
  refine ⟨S.grown (k + 2) ((es ++ [AV.agg xs]).length * 2),?_,.inr ⟨hn,hlo,Nat.lt_succ_self _,?_⟩,Nat.le_succ _,fun id hid=>?_⟩
  ·simp [Fo,el55,hi,hz0,hz1,hz2,Nr,xX,Value.cells,Qb,h5,hb1,hb2]
  ·show ((S.mem.set (k + 2) none).set S.next _).get S.next=_
   rw [T.get_set,if_pos rfl]
  ·show ((S.mem.set (k + 2) none).set S.next _).get id=_
   rw [T.get_set,if_neg (by omega),T.get_set,if_neg (by omega)]
def Wf:Code:=match Tryz.f181.body with
 | some (.seq _ (.seq _ (.seq (.block _ (.loop c)) _)))=>c
 | _=>.skip
def LoopRow181 (p k:Nat) (ts:List Tk) (S0:St) (x:PR (List (List UInt8 × Nat))) (r:O):Prop :=
 (∃ t' S' tok l i',r=.out (.exit 0) ⟨t',[]⟩ S' ∧ t'.get 0=some (.ptr p 0) ∧ t'.get 5=some (.sl tok 0 2 (l.map Hg)) ∧ Eb p S0 S' ∧ Cur S' p k ts i' ∧ i' < ts.length ∧ p < S'.next ∧ x=(Ea ts [[41]] i').bind fun _ j=>.ok l j) ∨
 (∃ t' S' a e,r=.out (.pan (Ye a e)) ⟨t',[]⟩ S' ∧ Eb p S0 S' ∧ x=.bad a e)
section
variable {p k:Nat} {ts:List Tk} (hts:TokOk ts)
include hts
theorem aA (h2p:2 ≤ p) (m:Nat) (kid:Nat → PR (List UInt8 × Nat)) (hkn:∀ i,kid i ≠ .out) (hF:∃ fn,E1.F m=some fn) (hkid:ConR p k ts m isLeft kid) (S0:St) (hp0:p < S0.next):∀ (n:Nat) (l:List (List UInt8 × Nat)) (i:Nat) (t:T AV) (S:St) (tok:Nat),Hj ts kid n l i ≠ .out → n + l.length ≤ 2000000 →
  t.get 0=some (.ptr p 0) → t.get 1=some (Pc m p) → t.get 5=some (.sl tok 0 2 (l.map Hg)) → Cur S p k ts i → p < S.next → i < ts.length → Xe 2 S0.next S tok (l.map Hg) → Eb p S0 S →
  WX E1 32 (.loop Wf) ⟨t,[]⟩ S (LoopRow181 p k ts S0 (Hj ts kid n l i))
 | 0,l,i,t,S,tok,ho,hnl,h0,h1,h5,h,hp,hi,hr,hx=>absurd rfl ho
 | n + 1,l,i,t,S,tok,ho,hnl,h0,h1,h5,h,hp,hi,hr,hx=>by
  refine D2 (Ds ?_)
  obtain ⟨fn1,hf1⟩:=Ku
  obtain ⟨fn2,hf2⟩:=hF
  unfold Pc at h1
  have eP:Hj ts kid (n + 1) l i=if (tk ts i).text ∈ [[44]] then (kid (i + 1)).bind fun y j=>Hj ts kid n (l ++ [y]) j else (Ea ts [[41]] i).bind fun _ j=>.ok l j:=rfl
  rw [eP] at ho ⊢
  clear eP
  by_cases hm:(tk ts i).text ∈ [[44]]
  ·rw [if_pos hm] at ho ⊢
   simp only [A6,Bk,Bt,A7,Bd,Bh,Bb,A5,Ba,A8,A0,Bo,B5,ofOpt,A9,Cg,Bv,Nat.reduceLT,Nat.reduceEqDiff,Aa,Ab,Ac,Aj,Ak,Tryz.f181,fp0,D7,hf1,h0,Wf]
   refine WC.mono (Lf h hp hi hts 1 0 [[44]] (by decide) (by decide) hm) ?_
   rintro _ ⟨S1,rfl,x1,c1,hi1,hp1⟩
   have y2:=(hx).trans x1
   obtain ⟨S3,q3,x3,c3,bt,hp3⟩:=Fj c1 hp1 (tk ts i)
   have y4:=(y2).trans x3
   simp only [Bw,Bz,Bp,A6,Bk,Bn,C9,A4,C0,Cv,Bf,A7,Bd,Bm,Bh,Bs,Bb,Bl,C1,A5,Ba,A8,A0,Bo,B5,ofOpt,ofOptS,Cg,Fd,Cy,C8,Nat.reduceLT,Nat.reduceEqDiff,Aa,Ab,Ac,Ag,Ah,Ak,Ar,Gu,Cp,hf2,h1,h5,q3]
   refine WC.mono (hkid _ _ c3 hp3 hi1) ?_
   cases hX5:kid (i + 1) with
   | out=>exact absurd hX5 (hkn _)
   | bad a e =>
    rintro _ ⟨S5,rfl,x5⟩
    simp only [Dj,C5,Ch]
    exact .inr ⟨_,_,_,_,rfl,y4.trans x5,rfl⟩
   | ok a5 j5 =>
    rw [hX5] at ho; rw [Du] at ho ⊢
    rintro _ ⟨_,S5,rfl,rfl,x5,c5,hi5⟩
    have hp5:p < S5.next:=Nat.lt_of_lt_of_le hp3 x5.1
    have y6:=(y4).trans x5
    have bt_6:=bt.keep x5
    have hda:Hg a5=.agg (Ik a5):=rfl
    have l7:=iB (Ik a5) rfl
    have hr2:Xe 2 S0.next S5 tok (l.map Hg):=hr.keep (((x1).trans x3).trans x5:Eb p S S5) hp0
    have hle:=y6.1
    obtain ⟨S8,a8,r8,n8,k8⟩:=push55 hr2 (by omega) hle (Ik a5) rfl (by rw [List.length_map]; omega)
    have z8:Eb p S0 S8:=⟨Nat.le_trans hle n8,fun id hid hn=>(k8 id hid).trans (y6.2 id hid hn)⟩
    have cc8:Cur S8 p k ts j5:=(k8 p hp0).trans c5
    have em:l.map Hg ++ [AV.agg (Ik a5)]=(l ++ [a5]).map Hg:=by rw [List.map_append]; rfl
    rw [em] at a8 r8
    simp only [Bw,B6,Bf,A7,Bd,Bb,Bl,A5,Ba,A8,A0,Bo,ofOpt,ofOptS,Cg,Bv,Nat.reduceLT,Nat.reduceEqDiff,Aa,Ab,Ac,hda,l7,a8]
    exact aA h2p m kid hkn ⟨_,hf2⟩ hkid S0 hp0 n _ _ _ _ _ ho (by rw [List.length_append]; simp; omega) (by simp [T.get_set,h0]) (by simp [T.get_set,h1,Pc]) (by simp [T.get_set]) cc8 (by omega) hi5 r8 z8
  ·rw [if_neg hm] at ho ⊢
   simp only [A6,Bk,Bt,A7,Bd,Bh,Bb,A5,Ba,A8,A0,Bo,B5,ofOpt,A9,Cg,Bv,Nat.reduceLT,Nat.reduceEqDiff,Aa,Ab,Ac,Aj,Ak,Tryz.f181,fp0,D7,hf1,h0,Wf]
   refine WC.mono (Mm h hp hi hts 1 0 [[44]] (by decide) hm) ?_
   rintro _ ⟨S9,rfl,x9,c9,hi9,hp9⟩
   have y10:=(hx).trans x9
   obtain ⟨S11,q11,x11,c11,bt,hp11⟩:=Fj c9 hp9 D5
   have y12:=(y10).trans x11
   simp only [Bw,Bz,Bp,A6,Bk,Bn,C9,A4,C0,Cv,Bf,A7,Bd,Bm,Bh,Bs,Bb,Bl,C7,A5,Ba,A8,A0,Bo,B5,ofOpt,ofOptS,Cg,Fd,Cy,C8,Nat.reduceLT,Nat.reduceEqDiff,Aa,Ab,Ac,Ag,Ah,Ak,Au,Gu,Cp,hf2,h1,h5,q11]
   exact .inl ⟨_,_,tok,l,i,rfl,by simp [T.get_set,h0],by simp [T.get_set,h5],y12,c11,hi9,hp11,rfl⟩
theorem rest_p181 (h2p:2 ≤ p) (m:Nat) (kid:Nat → PR (List UInt8 × Nat)) (hkn:∀ i,kid i ≠ .out) (hF:∃ fn,E1.F m=some fn) (hkid:ConR p k ts m isLeft kid) (n:Nat) (hn:n ≤ 1000000) (S:St) (i:Nat) (h:Cur S p k ts i) (hp:p < S.next) (hi:i < ts.length) (ho:((kid i).bind fun x j=>Hj ts kid n [x] j) ≠ .out):WC E1 181 [.ptr p 0,Pc m p] S (Qv p k ts S (Hq 2 Hg) ((kid i).bind fun x j=>Hj ts kid n [x] j)):=by
 refine Dt Tryz.f181 (by kernel_rfl) (by kernel_rfl) (by kernel_rfl) (by show (_:Nat) ≤ _;simp [Tryz.f181]) ?_
 obtain ⟨fn2,hf2⟩:=hF
 obtain ⟨fn3,hf3⟩:=Pt
 simp only [A6,Bk,A4,Bf,A7,Bd,Bh,Bb,A5,Ba,A8,Cd,A0,A1,Bo,B5,ofOpt,A9,Nat.reduceLT,Nat.reduceAdd,Nat.reduceEqDiff,Aa,Ab,Ac,Ae,Ak,Tryz.f181,hf2,Pc]
 refine WC.mono (hkid _ _ h hp hi) ?_
 cases hX1:kid i with
 | out=>exact absurd hX1 (hkn _)
 | bad a e =>
  rintro _ ⟨S1,rfl,x1⟩
  simp only [Cc,Ch,B7]
  exact ⟨_,rfl,x1⟩
 | ok a1 j1 =>
  rw [hX1] at ho; rw [Du] at ho ⊢
  rintro _ ⟨_,S1,rfl,rfl,x1,c1,hi1⟩
  have hp1:p < S1.next:=Nat.lt_of_lt_of_le hp x1.1
  have y2:=x1
  have hda:Hg a1=.agg (Ik a1):=rfl
  have l3:=iB (Ik a1) rfl
  simp only [Bk,Bt,D0,A4,Bf,A7,Bd,Bb,Bl,A5,Ba,A8,A0,A1,ofOpt,Cg,Bv,Nat.reduceLT,Nat.reduceEqDiff,Aa,Ab,Ac,hda,l3]
  refine WX.mono (aA hts h2p m kid hkn ⟨_,hf2⟩ hkid S hp n [a1] j1 _ _ 1 ho (by simp; omega) (by simp [T.get_set]) (by simp [T.get_set,Pc]) (by simp [T.get_set,hda]) c1 hp1 hi1 (.inl rfl) y2) ?_
  rintro _ (⟨t9,S9,tok9,l9,i9,rfl,g0,g5,x9,c9,hi9,hp9,e9⟩ | ⟨t9,S9,a9,e9,rfl,x9,q9⟩)
  ·rw [e9]
   simp only [A6,Bk,A4,C0,Cv,A7,Bd,Bh,Bb,A5,Ba,A8,A0,Bo,B5,ofOpt,A9,Cg,Bv,Nat.reduceLT,Nat.reduceEqDiff,Aa,Ab,Ac,Aj,Ak,fp0,D7,hf3,g0]
   refine WC.mono (Ix c9 hp9 hi9 hts 1 0 [[41]] (by decide) (by decide)) ?_
   cases hX4:Ea ts [[41]] i9 with
   | out=>exact absurd hX4 (Gp _ _ _)
   | bad a e =>
    rintro _ ⟨S4,rfl,x4⟩
    simp only [Cc,Ch,B7]
    exact ⟨_,rfl,x9.trans x4⟩
   | ok a4 j4 =>
    rintro _ ⟨_,S4,rfl,rfl,x4,c4,hi4⟩
    have hp4:p < S4.next:=Nat.lt_of_lt_of_le hp9 x4.1
    have y5:=(x9).trans x4
    simp only [A6,Bk,B0,A4,Bf,A7,Bd,Bb,Bl,A5,Ba,A8,A0,ofOpt,Bj,By,Bg,Cn,Nat.reduceLT,Nat.reduceEqDiff,Aa,Ab,Ac,g5]
    exact ⟨_,_,rfl,.inr ⟨_,_,rfl⟩,y5,c4,hi4⟩
  ·rw [q9]
   simp only [Cc,C5,B7]
   exact ⟨_,rfl,x9⟩
end
section
end
def J9 (ts:List Tk):Nat → List PD → Nat → PR (List PD)
 | 0,_,_=>.out
 | n + 1,l,i=>if (tk ts i).kind=1 then (Gb ts i).bind fun d j=>J9 ts n (l ++ [d]) j else .ok l i
def Jk (ts:List Tk) (n i:Nat):PR (List (List UInt8 × Nat)):=if (tk ts i).kind=1 then (Ie ts i).bind fun x j=>.ok [x] j else (Ea ts [[40]] i).bind fun _ j=>(Ie ts j).bind fun x j=>(Ea ts [[44]] j).bind fun _ j=>((Ie ts j).bind fun y m=>Hj ts (Ie ts) n [y] m).bind fun l m=>.ok (x :: l) m
theorem qY {α:Type} (ts:List Tk) (kid:Nat → PR α):∀ (n:Nat) (l:List α) (i:Nat) (r:List α) (j:Nat),Hj ts kid n l i=.ok r j → r.length ≤ l.length + n
 | 0,l,i,r,j,h=>by cases h
 | n + 1,l,i,r,j,h=>by
  unfold Hj at h
  split at h
  ·cases hk:kid (i + 1) with
   | out=>rw [hk] at h; cases h
   | bad a e=>rw [hk] at h; cases h
   | ok a m =>
    rw [hk,Du] at h
    have:=qY ts kid n _ _ _ _ h
    rw [List.length_append] at this
    simp at this
    omega
  ·cases hk:Ea ts [[41]] i with
   | out=>rw [hk] at h; cases h
   | bad a e=>rw [hk] at h; cases h
   | ok a m =>
    rw [hk,Du] at h
    cases h
    omega
theorem app55r {p k i:Nat} {S:St} {ts:List Tk} (h:Cur S p k ts i) (hp:p < S.next) (x:List UInt8 × Nat) {v:AV} {l:List (List UInt8 × Nat)} (hv:Hq 2 Hg v l) (hl:l.length ≤ 2000000) :
  ∃ S' w,Hl E1 S 55 55 (.sl 1 0 2 [Hg x]) v=some (w,S') ∧ Hq 2 Hg w (x :: l) ∧ Eb p S S' ∧ Cur S' p k ts i:=by
 obtain ⟨i',hi,hz0,hz1,hz2⟩:=Hs i59
 rw [app55]
 have same:∀ (w:AV),w=.sl 1 0 2 [Hg x] → Hq 2 Hg w [x]:=fun w e=>.inr ⟨1,0,e⟩
 rcases hv with ⟨rfl,rfl⟩ | ⟨tok,off,rfl⟩
 ·refine ⟨S,.sl 1 0 2 [Hg x],?_,same _ rfl,⟨Nat.le_refl _,fun _ _ _=>rfl⟩,h⟩
  simp [Fo,el55,hi,hz0,hz1,Nr,xX,Value.cells]
 ·cases l with
  | nil =>
   refine ⟨S,.sl 1 0 2 [Hg x],?_,same _ rfl,⟨Nat.le_refl _,fun _ _ _=>rfl⟩,h⟩
   simp [Fo,el55,hi,hz0,hz1,Nr,xX,Value.cells]
  | cons y r =>
   have hb1:(1 + (r.length + 1)) * 24 ≤ 140737488355328:=by simp at hl; omega
   have hb2:1 + (r.length + 1) ≤ 9223372036854775807:=by omega
   refine ⟨S.grown 1 ((Hg x :: Hg y :: r.map Hg).length * 2),.sl S.next 0 2 ((x :: y :: r).map Hg),?_,.inr ⟨_,_,rfl⟩,⟨Nat.le_succ _,fun id hid _=>?_⟩,?_⟩
   ·simp [Fo,el55,hi,hz0,hz1,hz2,Nr,xX,Value.cells,Qb,hb1,hb2]
   ·show (S.mem.set S.next _).get id=_
    rw [T.get_set,if_neg (by omega)]
   ·show (S.mem.set S.next _).get p=_
    rw [T.get_set,if_neg (by omega)]; exact h
section
variable {p k:Nat} {ts:List Tk} (hts:TokOk ts)
include hts
theorem fW (h2p:2 ≤ p) (m:Nat) (kid:Nat → PR PD) (hkn:∀ i,kid i ≠ .out) (hF:∃ fn,E1.F m=some fn) (hkid:ConR p k ts m mQ kid) (n:Nat) (hn:n ≤ 1000000) (S:St) (i:Nat) (h:Cur S p k ts i) (hp:p < S.next) (hi:i < ts.length) (ho:Kb ts kid n i ≠ .out):WC E1 125 [.ptr p 0,Pc m p] S (Qv p k ts S (Hq 6 F4) (Kb ts kid n i)):=by
 have eP:Kb ts kid n i=(Ea ts [[40]] i).bind fun _ j=>if (tk ts j).text ∈ [[41]] then .ok [] (j + 1) else (kid j).bind fun x m=>Hj ts kid n [x] m:=rfl
 rw [eP] at ho ⊢
 clear eP
 refine Dt Tryz.f125 (by kernel_rfl) (by kernel_rfl) (by kernel_rfl) (by show (_:Nat) ≤ _;simp [Tryz.f125]) ?_
 obtain ⟨fn1,hf1⟩:=Ku
 obtain ⟨fn2,hf2⟩:=Pt
 obtain ⟨fn3,hf3⟩:=fnOk156
 simp only [A6,Bk,A4,Bf,A7,Bd,Bh,Bb,A5,Ba,A8,Cd,A0,A1,Bo,B5,ofOpt,A9,Cg,Bv,Nat.reduceLT,Nat.reduceAdd,Nat.reduceEqDiff,Aa,Ab,Ac,Ae,Aj,Ak,Tryz.f125,fp0,D7,hf2]
 refine WC.mono (Ix h hp hi hts 1 0 [[40]] (by decide) (by decide)) ?_
 cases hX1:Ea ts [[40]] i with
 | out=>exact absurd hX1 (Gp _ _ _)
 | bad a e =>
  rintro _ ⟨S1,rfl,x1⟩
  simp only [Cc,Ch,B7]
  exact ⟨_,rfl,x1⟩
 | ok a1 j1 =>
  rw [hX1] at ho; rw [Du] at ho ⊢
  rintro _ ⟨_,S1,rfl,rfl,x1,c1,hi1⟩
  have hp1:p < S1.next:=Nat.lt_of_lt_of_le hp x1.1
  have y2:=x1
  by_cases hm:(tk ts j1).text ∈ [[41]]
  ·rw [if_pos hm] at ho ⊢
   simp only [A6,Bk,A4,Bf,A7,Bd,Bh,Bb,Bl,A5,Ba,A8,A0,A1,Bo,B5,ofOpt,A9,Cg,Bv,Nat.reduceLT,Nat.reduceEqDiff,Aa,Ab,Ac,Aj,Ak,fp0,D7,hf1]
   refine WC.mono (Lf c1 hp1 hi1 hts 1 0 [[41]] (by decide) (by decide) hm) ?_
   rintro _ ⟨S3,rfl,x3,c3,hi3,hp3⟩
   have y4:=(y2).trans x3
   obtain ⟨S5,q5,x5,c5,bt,hp5⟩:=Fj c3 hp3 (tk ts j1)
   have y6:=(y4).trans x5
   simp only [Bp,A6,Bk,Bn,B0,A4,C6,Bf,A7,Bd,Bm,Bh,Bs,Bb,Bl,C7,A5,Ba,A8,A0,A1,Bo,B5,ofOpt,ofOptS,A9,Cg,Bj,By,Bg,Cn,Nat.reduceLT,Nat.reduceEqDiff,Aa,Ab,Ac,Ag,Ah,Aj,Ak,Gu,Cp,hf3,q5]
   exact ⟨_,_,rfl,.inl ⟨rfl,rfl⟩,y6,c5,hi3⟩
  ·rw [if_neg hm] at ho ⊢
   simp only [A6,Bk,A4,Bf,A7,Bd,Bh,Bb,Bl,A5,Ba,A8,A0,A1,Bo,B5,ofOpt,A9,Cg,Bv,Nat.reduceLT,Nat.reduceEqDiff,Aa,Ab,Ac,Aj,Ak,fp0,D7,hf1]
   refine WC.mono (Mm c1 hp1 hi1 hts 1 0 [[41]] (by decide) hm) ?_
   rintro _ ⟨S7,rfl,x7,c7,hi7,hp7⟩
   have y8:=(y2).trans x7
   obtain ⟨S9,q9,x9,c9,bt,hp9⟩:=Fj c7 hp7 D5
   have y10:=(y8).trans x9
   simp only [Bp,A6,Bk,Bn,B0,A4,C6,Bf,A7,Bd,Bm,Bh,Bs,Bb,Bl,C1,A5,Ba,A8,A0,A1,Bo,B5,ofOpt,ofOptS,A9,Cg,Bj,By,Bg,Cn,Nat.reduceLT,Nat.reduceEqDiff,Aa,Ab,Ac,Ag,Ah,Aj,Ak,Gu,Cp,hf3,q9]
   refine WC.mono (rest_p156 hts h2p m kid hkn hF hkid n hn _ _ c9 hp9 hi7 ho) ?_
   cases hX11:(kid j1).bind fun x m=>Hj ts kid n [x] m with
   | out=>exact absurd hX11 ho
   | bad a e =>
    rintro _ ⟨S11,rfl,x11⟩
    simp only [Cc,Ch,B7]
    exact ⟨_,rfl,y10.trans x11⟩
   | ok a j =>
    rintro _ ⟨v,S11,rfl,hv,x11,c11,hi11⟩
    simp only [B0,A4,Bf,A7,Bd,Bb,Bl,A5,Ba,A8,A0,A1,ofOpt,Bj,By,Bg,Cn,Nat.reduceLT,Nat.reduceEqDiff,Aa,Ab,Ac]
    exact ⟨_,_,rfl,hv,y10.trans x11,c11,hi11⟩
theorem lefts_p (h2p:2 ≤ p) (n:Nat) (hn:n ≤ 1000000) (S:St) (i:Nat) (h:Cur S p k ts i) (hp:p < S.next) (hi:i < ts.length) (ho:Jk ts n i ≠ .out):WC E1 158 [.ptr p 0] S (Qv p k ts S (Hq 2 Hg) (Jk ts n i)):=by
 have eP:Jk ts n i=if (tk ts i).kind=1 then (Ie ts i).bind fun x j=>.ok [x] j else (Ea ts [[40]] i).bind fun _ j=>(Ie ts j).bind fun x j=>(Ea ts [[44]] j).bind fun _ j=>((Ie ts j).bind fun y m=>Hj ts (Ie ts) n [y] m).bind fun l m=>.ok (x :: l) m:=rfl
 rw [eP] at ho ⊢
 clear eP
 refine Dt Tryz.f158 (by kernel_rfl) (by kernel_rfl) (by kernel_rfl) (by show (_:Nat) ≤ _;simp [Tryz.f158]) ?_
 obtain ⟨fn1,hf1⟩:=Rd
 obtain ⟨fn2,hf2⟩:=fnOk180
 obtain ⟨fn3,hf3⟩:=Pt
 obtain ⟨fn4,hf4⟩:=fnOk181
 simp only [A6,Bk,A4,Bf,A7,Bd,Bh,Bb,A5,Ba,A8,Cd,A0,A1,Bo,B5,ofOpt,A9,Cg,Nat.reduceLT,Nat.reduceEqDiff,Aa,Ab,Ac,Ae,Aj,Ak,Tryz.f158,fp0,hf1]
 refine WC.mono (aP _ p k ts i h hp hi) ?_
 rintro _ ⟨S1,rfl,k1⟩
 have x1:=k1.x p
 have c1:=h.keep hp k1
 have hp1:p < S1.next:=Nat.lt_of_lt_of_le hp x1.1
 have y2:=x1
 have e0:=Ml hi
 by_cases h1:(tk ts i).kind=1
 ·rw [if_pos h1] at ho ⊢
  have n1:(((ts[i].kind:Nat):Int) == 1)=true:=by rw [← e0,h1]; rfl
  simp only [Bp,A6,Bk,Bn,A4,Bf,A7,Bd,Bh,Bb,Bl,C7,A5,Ba,A8,A0,A1,Bo,B5,ofOpt,A9,Cg,Bv,Bu,B9,Nat.reduceLT,Nat.reduceEqDiff,Aa,Ab,Ac,Aj,Ak,Am,fp0,D7,hf2,hf3,K9,Dl,n1]
  refine WC.mono (left_p hts _ _ c1 hp1 hi) ?_
  cases hX3:Ie ts i with
  | out=>exact absurd hX3 (mK _ _)
  | bad a e =>
   rintro _ ⟨S3,rfl,x3⟩
   simp only [Cc,Ch,B7]
   exact ⟨_,rfl,y2.trans x3⟩
  | ok a3 j3 =>
   rintro _ ⟨_,S3,rfl,rfl,x3,c3,hi3⟩
   have hp3:p < S3.next:=Nat.lt_of_lt_of_le hp1 x3.1
   have y4:=(y2).trans x3
   rw [Du]
   have hda:Hg a3=.agg (Ik a3):=rfl
   have l5:=iB (Ik a3) rfl
   simp only [B0,A4,C6,Bf,A7,Bd,Bb,Bl,A5,Ba,A8,A0,A1,ofOpt,Cg,Bv,Bj,By,Bg,Cn,Nat.reduceLT,Nat.reduceEqDiff,Aa,Ab,Ac,hda,l5]
   exact ⟨_,_,rfl,.inr ⟨_,_,rfl⟩,y4,c3,hi3⟩
 ·rw [if_neg h1] at ho ⊢
  have n1:(((ts[i].kind:Nat):Int) == 1)=false:=by rw [← e0,beq_eq_false_iff_ne]; omega
  simp only [Bp,A6,Bk,Bn,A4,Bf,A7,Bd,Bh,Bb,Bl,C1,A5,Ba,A8,A0,A1,Bo,B5,ofOpt,A9,Cg,Bv,Bu,B9,Nat.reduceLT,Nat.reduceEqDiff,Aa,Ab,Ac,Aj,Ak,Am,fp0,D7,hf2,hf3,K9,Dl,n1]
  refine WC.mono (Ix c1 hp1 hi hts 1 0 [[40]] (by decide) (by decide)) ?_
  cases hX6:Ea ts [[40]] i with
  | out=>exact absurd hX6 (Gp _ _ _)
  | bad a e =>
   rintro _ ⟨S6,rfl,x6⟩
   simp only [Cc,Ch,B7]
   exact ⟨_,rfl,y2.trans x6⟩
  | ok a6 j6 =>
   rw [hX6] at ho; rw [Du] at ho ⊢
   rintro _ ⟨_,S6,rfl,rfl,x6,c6,hi6⟩
   have hp6:p < S6.next:=Nat.lt_of_lt_of_le hp1 x6.1
   have y7:=(y2).trans x6
   simp only [A6,Bk,A4,Bf,A7,Bd,Bh,Bb,Bl,A5,Ba,A8,A0,A1,Bo,B5,ofOpt,Nat.reduceLT,Nat.reduceEqDiff,Aa,Ab,Ac,Aj,Ak,hf2]
   refine WC.mono (left_p hts _ _ c6 hp6 hi6) ?_
   cases hX8:Ie ts j6 with
   | out=>exact absurd hX8 (mK _ _)
   | bad a e =>
    rintro _ ⟨S8,rfl,x8⟩
    simp only [Cc,Ch,B7]
    exact ⟨_,rfl,y7.trans x8⟩
   | ok a8 j8 =>
    rw [hX8] at ho; rw [Du] at ho ⊢
    rintro _ ⟨_,S8,rfl,rfl,x8,c8,hi8⟩
    have hp8:p < S8.next:=Nat.lt_of_lt_of_le hp6 x8.1
    have y9:=(y7).trans x8
    have hda:Hg a8=.agg (Ik a8):=rfl
    obtain ⟨S10,q10,x10,c10,bf,hp10⟩:=boxG2 yJ jA rfl c8 hp8 (xs:=Ik a8) rfl
    have y11:=(y9).trans x10
    simp only [A6,Bk,A4,Bf,A7,Bd,Bm,Bh,Bs,Bb,Bl,A5,Ba,A8,A0,A1,Bo,B5,ofOpt,ofOptS,A9,Cg,Bv,Nat.reduceLT,Nat.reduceEqDiff,Aa,Ab,Ac,Aj,Ak,fp0,D7,hf3,alo59,hda,q10]
    refine WC.mono (Ix c10 hp10 hi8 hts 1 0 [[44]] (by decide) (by decide)) ?_
    cases hX12:Ea ts [[44]] j8 with
    | out=>exact absurd hX12 (Gp _ _ _)
    | bad a e =>
     rintro _ ⟨S12,rfl,x12⟩
     simp only [Cc,Ch,B7]
     exact ⟨_,rfl,y11.trans x12⟩
    | ok a12 j12 =>
     rw [hX12] at ho; rw [Du] at ho ⊢
     rintro _ ⟨_,S12,rfl,rfl,x12,c12,hi12⟩
     have hp12:p < S12.next:=Nat.lt_of_lt_of_le hp10 x12.1
     have y13:=(y11).trans x12
     have bf_13:=bf.keep x12
     have l14:=ldG ag59 yJ bf_13.get rfl
     have l15:=iB (Ik a8) rfl
     simp only [Cm,Bk,A4,Bf,Bb,Bl,Nat.reduceLT,Ac]
     refine Fz [(0,true),(1,true),(2,true),(3,true),(4,true),(5,true),(0,false),(6,true),(7,true)] (by kernel_rfl) (by kernel_rfl) ?_
     simp only [A5,Ba,A8,A0,A1,Bo,B5,ofOpt,Cg,Bv,Nat.reduceLT,Nat.reduceEqDiff,Aa,Ab,Ac,Af,Ag,Ah,Aj,Ak,Am,Dq,D9,D6,Dg,F9,hf4,l14,l15]
     have hb2:=F8 ho
     refine WC.mono (rest_p181 hts h2p 180 _ (mK ts) fnOk180 (left_p hts) n hn _ _ c12 hp12 hi12 hb2) ?_
     cases hX:(Ie ts j12).bind fun y m=>Hj ts (Ie ts) n [y] m with
     | out=>exact absurd hX hb2
     | bad a e =>
      rintro _ ⟨S99,rfl,x99⟩
      simp only [Cc,B7,Fi,Fw]
      exact ⟨_,rfl,y13.trans x99⟩
     | ok l j =>
      rw [Du]
      rintro _ ⟨v,S99,rfl,hv,x99,c99,hi99⟩
      have hp99:p < S99.next:=Nat.lt_of_lt_of_le hp12 x99.1
      have y17:=(y13).trans x99
      have bf_17:=bf_13.keep x99
      have hlen:l.length ≤ 2000000:=by
       cases hk:Ie ts j12 with
       | out=>rw [hk] at hX; cases hX
       | bad a e=>rw [hk] at hX; cases hX
       | ok a m=>rw [hk,Du] at hX; have:=qY _ _ _ _ _ _ _ hX; simp at this; omega
      obtain ⟨S98,w98,ha98,hw98,x98,c98⟩:=app55r c99 hp99 a8 hv hlen
      rw [hda] at ha98
      have l18:=ldG ag59 yJ bf_17.get rfl
      have bq:Gc (.sl 1 0 2 [.agg (Ik a8)]) (.sl 1 0 2 [.agg (Ik a8)])=true:=by simp [Gc,Na,Ik,Bq,Dl,eqS,Jn]
      have bq2:Gc (.agg (Ik a8)) (.agg (Ik a8))=true:=by simp [Gc,Na,Ik,Bq,Dl,eqS,Jn]
      simp only [B0,A4,A5,Ba,A8,A0,A1,Bo,ofOpt,ofOptS,Cg,Bj,By,Bg,Cn,Nat.reduceLT,Nat.reduceEqDiff,Aa,Ab,Ac,Eg,Dq,Jp,D9,Dg,El,Ed,D8,Er,l18,bq2,ha98]
      exact ⟨_,_,rfl,hw98,y17.trans x98,c98,hi99⟩
omit hts
def xU:Code:=match Tryz.f127.body with
 | some (.seq _ (.seq _ (.seq (.block _ (.loop c)) _)))=>c
 | _=>.skip
def LoopVars (p k:Nat) (ts:List Tk) (S0:St) (x:PR (List PD)) (r:O):Prop :=
 (∃ t' S' tok l i',r=.out (.exit 0) ⟨t',[]⟩ S' ∧ t'.get 3=some (.sl tok 0 6 (l.map F4)) ∧ Eb p S0 S' ∧ Cur S' p k ts i' ∧ i' < ts.length ∧ p < S'.next ∧ x=.ok l i') ∨
 (∃ t' S' a e,r=.out (.pan (Ye a e)) ⟨t',[]⟩ S' ∧ Eb p S0 S' ∧ x=.bad a e)
include hts
theorem pZ (h2p:2 ≤ p) (S0:St) (hp0:p < S0.next):∀ (n:Nat) (l:List PD) (i:Nat) (t:T AV) (S:St) (tok:Nat),J9 ts n l i ≠ .out → n + l.length ≤ 2000000 →
  t.get 0=some (.ptr p 0) → t.get 3=some (.sl tok 0 6 (l.map F4)) → Cur S p k ts i → p < S.next → i < ts.length → Xe 6 S0.next S tok (l.map F4) → Eb p S0 S →
  WX E1 19 (.loop xU) ⟨t,[]⟩ S (LoopVars p k ts S0 (J9 ts n l i))
 | 0,l,i,t,S,tok,ho,hnl,h0,h3,h,hp,hi,hr,hx=>absurd rfl ho
 | n + 1,l,i,t,S,tok,ho,hnl,h0,h3,h,hp,hi,hr,hx=>by
  refine D2 (Ds ?_)
  obtain ⟨fn1,hf1⟩:=Rd
  obtain ⟨fn2,hf2⟩:=fnOk157
  have eP:J9 ts (n + 1) l i=if (tk ts i).kind=1 then (Gb ts i).bind fun d j=>J9 ts n (l ++ [d]) j else .ok l i:=rfl
  rw [eP] at ho ⊢
  clear eP
  have e0:=Ml hi
  simp only [A6,Bk,A7,Bd,Bh,Bb,A5,Ba,A8,A0,Bo,B5,ofOpt,Cg,Nat.reduceLT,Nat.reduceEqDiff,Aa,Ab,Ac,Aj,Ak,Tryz.f127,fp0,hf1,h0,xU]
  refine WC.mono (aP _ p k ts i h hp hi) ?_
  rintro _ ⟨S1,rfl,k1⟩
  have x1:=k1.x p
  have c1:=h.keep hp k1
  have hp1:p < S1.next:=Nat.lt_of_lt_of_le hp x1.1
  have y2:=(hx).trans x1
  by_cases h1:(tk ts i).kind=1
  ·rw [if_pos h1] at ho ⊢
   have n1:(((ts[i].kind:Nat):Int) == 1)=true:=by rw [← e0,h1]; rfl
   simp only [Bz,Bp,A6,Bn,Bt,C9,A4,C0,Bf,A7,Bd,Bh,Bb,Bl,C7,A5,Ba,A8,A0,Bo,B5,ofOpt,A9,Cg,Bu,B9,Nat.reduceLT,Nat.reduceEqDiff,Aa,Ab,Ac,Aj,Ak,Am,hf2,h0,h3,K9,Dl,n1]
   refine WC.mono (tM hts _ _ c1 hp1 hi) ?_
   cases hX3:Gb ts i with
   | out=>exact absurd hX3 (gK _ _)
   | bad a e =>
    rintro _ ⟨S3,rfl,x3⟩
    simp only [Dj,C5,Ch]
    exact .inr ⟨_,_,_,_,rfl,y2.trans x3,rfl⟩
   | ok a3 j3 =>
    rw [hX3] at ho; rw [Du] at ho ⊢
    rintro _ ⟨_,S3,rfl,rfl,x3,c3,hi3⟩
    have hp3:p < S3.next:=Nat.lt_of_lt_of_le hp1 x3.1
    have y4:=(y2).trans x3
    have hda:F4 a3=.agg (Fh a3):=rfl
    have l5:=iC (Fh a3) rfl
    have hr2:Xe 6 S0.next S3 tok (l.map F4):=hr.keep ((x1).trans x3:Eb p S S3) hp0
    have hle:=y4.1
    obtain ⟨S6,a6,r6,n6,k6⟩:=push46 hr2 (by omega) hle (Fh a3) rfl (by rw [List.length_map]; omega)
    have z6:Eb p S0 S6:=⟨Nat.le_trans hle n6,fun id hid hn=>(k6 id hid).trans (y4.2 id hid hn)⟩
    have cc6:Cur S6 p k ts j3:=(k6 p hp0).trans c3
    have em:l.map F4 ++ [AV.agg (Fh a3)]=(l ++ [a3]).map F4:=by rw [List.map_append]; rfl
    rw [em] at a6 r6
    simp only [Bw,B6,Bf,A7,Bd,Bb,Bl,A5,Ba,A8,A0,Bo,ofOpt,ofOptS,Cg,Bv,Nat.reduceLT,Nat.reduceEqDiff,Aa,Ab,Ac,hda,l5,a6]
    exact pZ h2p S0 hp0 n _ _ _ _ _ ho (by rw [List.length_append]; simp; omega) (by simp [T.get_set,h0]) (by simp [T.get_set]) cc6 (by omega) hi3 r6 z6
  ·rw [if_neg h1] at ho ⊢
   have n1:(((ts[i].kind:Nat):Int) == 1)=false:=by rw [← e0,beq_eq_false_iff_ne]; omega
   simp only [Bz,Bp,A6,Bn,Bt,C9,A4,C0,Bf,A7,Bd,Bh,Bb,Bl,C1,A5,Ba,A8,A0,Bo,B5,ofOpt,A9,Cg,Bu,B9,Nat.reduceLT,Nat.reduceEqDiff,Aa,Ab,Ac,Aj,Ak,Am,hf2,h0,h3,K9,Dl,n1]
   exact .inl ⟨_,_,tok,l,i,rfl,by simp [T.get_set,h3],y2,c1,hi,hp1,rfl⟩
theorem vars_p (h2p:2 ≤ p) (n:Nat) (hn:n ≤ 1000000) (S:St) (i:Nat) (h:Cur S p k ts i) (hp:p < S.next) (hi:i < ts.length) (ho:((Gb ts i).bind fun x j=>J9 ts n [x] j) ≠ .out):WC E1 127 [.ptr p 0] S (Qv p k ts S (Hq 6 F4) ((Gb ts i).bind fun x j=>J9 ts n [x] j)):=by
 refine Dt Tryz.f127 (by kernel_rfl) (by kernel_rfl) (by kernel_rfl) (by show (_:Nat) ≤ _;simp [Tryz.f127]) ?_
 obtain ⟨fn2,hf2⟩:=fnOk157
 simp only [A6,Bk,A4,Bf,A7,Bd,Bh,Bb,A5,Ba,A8,Cd,A0,A1,Bo,B5,ofOpt,A9,Nat.reduceLT,Nat.reduceEqDiff,Aa,Ab,Ac,Ae,Aj,Ak,Tryz.f127,hf2]
 refine WC.mono (tM hts _ _ h hp hi) ?_
 cases hX1:Gb ts i with
 | out=>exact absurd hX1 (gK _ _)
 | bad a e =>
  rintro _ ⟨S1,rfl,x1⟩
  simp only [Cc,Ch,B7]
  exact ⟨_,rfl,x1⟩
 | ok a1 j1 =>
  rw [hX1] at ho; rw [Du] at ho ⊢
  rintro _ ⟨_,S1,rfl,rfl,x1,c1,hi1⟩
  have hp1:p < S1.next:=Nat.lt_of_lt_of_le hp x1.1
  have y2:=x1
  have hda:F4 a1=.agg (Fh a1):=rfl
  have l3:=iC (Fh a1) rfl
  simp only [Bk,Bt,D0,A4,Bf,A7,Bd,Bb,Bl,A5,Ba,A8,A0,A1,ofOpt,Cg,Bv,Nat.reduceLT,Nat.reduceEqDiff,Aa,Ab,Ac,hda,l3]
  refine WX.mono (pZ hts h2p S hp n [a1] j1 _ _ 1 ho (by simp; omega) (by simp [T.get_set]) (by simp [T.get_set,hda]) c1 hp1 hi1 (.inl rfl) y2) ?_
  rintro _ (⟨t9,S9,tok9,l9,i9,rfl,g3,x9,c9,hi9,hp9,e9⟩ | ⟨t9,S9,a9,e9,rfl,x9,q9⟩)
  ·rw [e9]
   simp only [A6,Bk,B0,A4,C0,Cv,Bf,A7,Bd,Bb,A5,Ba,A8,A0,ofOpt,Bj,By,Bg,Cn,Nat.reduceLT,Nat.reduceEqDiff,Aa,Ab,Ac,g3]
   exact ⟨_,_,rfl,.inr ⟨_,_,rfl⟩,x9,c9,hi9⟩
  ·rw [q9]
   simp only [Cc,C5,B7]
   exact ⟨_,rfl,x9⟩
end
end Go.Ax
