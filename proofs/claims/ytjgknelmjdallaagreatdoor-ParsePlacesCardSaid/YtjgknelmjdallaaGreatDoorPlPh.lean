/-
  What the parser Lo: declarations, what stands on the left.
-/
import Derived.Test.YtjgknelmjdallaaGreatDoorPlPg
noncomputable section
namespace Go.Ax
open Go.RowKit Go.Proofs
set_option linter.unusedVariables false
set_option linter.unusedSimpArgs false
set_option maxRecDepth 100000
theorem fnOk125 : ∃ fn, E1.F 125 = some fn := Option.isSome_iff_exists.1 (by kernel_rfl)
theorem Y3 : ∃ fn, E1.F 126 = some fn := Option.isSome_iff_exists.1 (by kernel_rfl)
theorem fnOk127 : ∃ fn, E1.F 127 = some fn := Option.isSome_iff_exists.1 (by kernel_rfl)
theorem fnOk156 : ∃ fn, E1.F 156 = some fn := Option.isSome_iff_exists.1 (by kernel_rfl)
theorem fY : ∃ fn, E1.F 157 = some fn := Option.isSome_iff_exists.1 (by kernel_rfl)
theorem fX : ∃ fn, E1.F 158 = some fn := Option.isSome_iff_exists.1 (by kernel_rfl)
theorem fS : ∃ fn, E1.F 180 = some fn := Option.isSome_iff_exists.1 (by kernel_rfl)
theorem fR : ∃ fn, E1.F 181 = some fn := Option.isSome_iff_exists.1 (by kernel_rfl)

/- Not by reckoning: else the kernel would run the code to see that two ways to say where it stands are the same. -/
theorem Ci {E : Env} {n : Nat} {f : Fr} {S : St} {Q : O → Prop} {b : Code} : Ye E n b Q (.out .normal f S) = W E n b f S Q := id rfl
theorem De {E : Env} {n : Nat} {f : Fr} {S : St} {Q : O → Prop} {ops : Array Oper} : WL E n ops [] f S Q = Q (.out .normal f S) := id rfl
theorem Dm {E : Env} {n : Nat} {f : Fr} {S : St} {Q : O → Prop} {ops : Array Oper} : WR E n ops [] f S Q = Q (.out .normal f S) := id rfl
section
variable {S : St} {p k i T n : Nat} {ts : List Tk}
theorem stG (hs : Fj Tryz.prog T = some n) {id : Nat} {cs ys : List AV} (h : S.mem.get id = some (.box cs)) (hl : cs.length = n) (hy : ys.length = n) : Du Tryz.prog S T (.ptr id 0) (.agg ys) = some (S.put id ys) := by
  have h2 : (AV.agg ys).noTup = true := rfl
  simp [Du, h, hs, h2, AV.cells, hl, hy, St.put, List.drop_eq_nil_of_le]
theorem ldG (ha : Fv Tryz.prog T = some true) (hs : Fj Tryz.prog T = some n) {id : Nat} {cs : List AV} (h : S.mem.get id = some (.box cs)) (hl : cs.length = n) : Dw Tryz.prog S T (.ptr id 0) = some (.agg cs) := by
  have e : cs.take n = cs := List.take_of_length_le (by omega)
  simp [Dw, D6, h, ha, hs, hl, e]
theorem aG (Z : List AV) (h : Cur S p k ts i) (hp : p < S.next) : El p S (S.newBox Z) ∧ Cur (S.newBox Z) p k ts i ∧ Has p (S.newBox Z) S.next Z ∧ p < (S.newBox Z).next :=
  ⟨Hm S Z, h.new hp Z, ⟨Ea S _, Nat.lt_succ_self _, by omega⟩, Nat.lt_succ_of_lt hp⟩
theorem gN (hs : Fj Tryz.prog T = some n) (Z : List AV) (hz : Z.length = n) (h : Cur S p k ts i) (hp : p < S.next) {xs : List AV} (hx : xs.length = n) : ∃ S', Du Tryz.prog (S.newBox Z) T (.ptr S.next 0) (.agg xs) = some S' ∧ El p S S' ∧ Cur S' p k ts i ∧ Has p S' S.next xs ∧ p < S'.next :=
  ⟨_, stG hs (Ea S _) hz hx, Gw (Hm S _) (Nat.le_refl _) _, (h.new hp _).put (by omega) _, ⟨E9 _ _ _, Nat.lt_succ_self _, by omega⟩, Nat.lt_succ_of_lt hp⟩
theorem Q1 (ha : Fv Tryz.prog T = some true) (hs : Fj Tryz.prog T = some n) {S0 : St} {b : Nat} {cs : List AV} (h : Cur S p k ts i) (hb : Has p S b cs) (hl : cs.length = n) (hle : S0.next ≤ b) (x : El p S0 S) {xs : List AV} (hx : xs.length = n) :
    Du Tryz.prog S T (.ptr b 0) (.agg xs) = some (S.put b xs) ∧ Dw Tryz.prog (S.put b xs) T (.ptr b 0) = some (.agg xs) ∧ El p S0 (S.put b xs) ∧ Cur (S.put b xs) p k ts i :=
  ⟨stG hs hb.get hl hx, ldG ha hs (E9 _ _ _) hx, Gw x hle _, h.put (fun e => hb.ne e.symm) _⟩
end
/- The sizes, and what is nothing. -/
theorem eE : Fv Tryz.prog 54 = some true := by kernel_rfl
theorem T8 : Fj Tryz.prog 54 = some 6 := by kernel_rfl
def Zj : List AV := [D5 [], Dy 0, .v (.bool false), .v (.bool false), D5 [], .v (.bool false)]
theorem G4 (S : St) : Hr Tryz.prog S 54 = some (.ptr S.next 0, S.newBox Zj) := by kernel_rfl
theorem ag59 : Fv Tryz.prog 59 = some true := by kernel_rfl
theorem Zr : Fj Tryz.prog 59 = some 2 := by kernel_rfl
def bY : List AV := [D5 [], Dy 0]
theorem Fy (S : St) : Hr Tryz.prog S 59 = some (.ptr S.next 0, S.newBox bY) := by kernel_rfl

/-- A declaration. -/
structure PD where
  name : List UInt8
  pos : Nat
  bool : Bool
  fut : Bool
  clock : List UInt8
  off : Bool
def Gp (d : PD) : List AV := [D5 d.name, Dy d.pos, .v (.bool d.bool), .v (.bool d.fut), D5 d.clock, .v (.bool d.off)]
def Ga (d : PD) : AV := .agg (Gp d)
def Vc (v : AV) (d : PD) : Prop := v = Ga d
def Hq (d : List UInt8 × Nat) : List AV := [D5 d.1, Dy d.2]
def Gc (d : List UInt8 × Nat) : AV := .agg (Hq d)
def dF (v : AV) (d : List UInt8 × Nat) : Prop := v = Gc d
def Ks (ts : List Tk) (i : Nat) : PR PD := (F4 ts 1 i).bind fun t j => (Ec ts [[58]] j).bind fun _ j => if (tk ts j).text ∈ [[102, 117, 116, 117, 114, 101]] then (Ec ts [[105, 110, 116], [98, 111, 111, 108]] (j + 1)).bind fun u m => .ok ⟨t.text, t.pos, decide (u.text = [98, 111, 111, 108]), true, [], false⟩ m else (Ec ts [[105, 110, 116], [98, 111, 111, 108]] j).bind fun u m => .ok ⟨t.text, t.pos, decide (u.text = [98, 111, 111, 108]), false, [], false⟩ m
def G3 (ts : List Tk) (i : Nat) : PR PD := (Ks ts i).bind fun d j => if (tk ts j).text ∈ [[119, 104, 101, 110]] then (Ky ts (j + 1)).bind fun c j => (Ec ts [[59]] j).bind fun _ j => .ok { d with clock := c.1, off := c.2 } j else (Ec ts [[59]] j).bind fun _ j => .ok d j
def Jl (ts : List Tk) (i : Nat) : PR (List UInt8 × Nat) := (F4 ts 1 i).bind fun t j => .ok (t.text, t.pos) j
theorem U9 (ts : List Tk) (i : Nat) : Jl ts i ≠ .out := by
  unfold Jl
  cases h : F4 ts 1 i with
  | out => exact absurd h (Ip _ _ _)
  | bad a e => exact fun e => by cases e
  | ok a j => exact fun e => by cases e
theorem Rd (ts : List Tk) (i : Nat) : Ks ts i ≠ .out := by
  unfold Ks
  cases h : F4 ts 1 i with
  | out => exact absurd h (Ip _ _ _)
  | bad a e => exact fun e => by cases e
  | ok a j =>
    rw [Ds]
    cases h : Ec ts [[58]] j with
    | out => exact absurd h (Fq _ _ _)
    | bad a e => exact fun e => by cases e
    | ok a j =>
      rw [Ds]
      split
      · cases h : Ec ts [[105, 110, 116], [98, 111, 111, 108]] (j + 1) with
        | out => exact absurd h (Fq _ _ _)
        | bad a e => exact fun e => by cases e
        | ok a j => exact fun e => by cases e
      · cases h : Ec ts [[105, 110, 116], [98, 111, 111, 108]] j with
        | out => exact absurd h (Fq _ _ _)
        | bad a e => exact fun e => by cases e
        | ok a j => exact fun e => by cases e
theorem Xr (ts : List Tk) (i : Nat) : Ky ts i ≠ .out := by
  unfold Ky
  split
  · cases h : F4 ts 1 (i + 1) with
    | out => exact absurd h (Ip _ _ _)
    | bad a e => exact fun e => by cases e
    | ok a j => exact fun e => by cases e
  · cases h : F4 ts 1 i with
    | out => exact absurd h (Ip _ _ _)
    | bad a e => exact fun e => by cases e
    | ok a j => exact fun e => by cases e
theorem Td (ts : List Tk) (i : Nat) : G3 ts i ≠ .out := by
  unfold G3
  cases h : Ks ts i with
  | out => exact absurd h (Rd _ _)
  | bad a e => exact fun e => by cases e
  | ok a j =>
    rw [Ds]
    split
    · cases h : Ky ts (j + 1) with
      | out => exact absurd h (Xr _ _)
      | bad a e => exact fun e => by cases e
      | ok a j =>
        rw [Ds]
        cases h : Ec ts [[59]] j with
        | out => exact absurd h (Fq _ _ _)
        | bad a e => exact fun e => by cases e
        | ok a j => exact fun e => by cases e
    · cases h : Ec ts [[59]] j with
      | out => exact absurd h (Fq _ _ _)
      | bad a e => exact fun e => by cases e
      | ok a j => exact fun e => by cases e
theorem b52 (x y : Bool) : Gk Tryz.prog 52 [(0, .v (.bool x)), (1, .v (.bool y))] = some (.agg [.v (.bool x), .v (.bool y)]) := by kernel_rfl
theorem b54 (s : List UInt8) (a : Nat) (x y : Bool) : Gk Tryz.prog 54 [(0, .v (.string ⟨⟨s⟩⟩)), (1, .v (.int .i64 (a : Int))), (2, .agg [.v (.bool x), .v (.bool y)])] = some (.agg (Gp ⟨s, a, x, y, [], false⟩)) := by kernel_rfl
theorem b59 (s : List UInt8) (a : Nat) : Gk Tryz.prog 59 [(0, .v (.string ⟨⟨s⟩⟩)), (1, .v (.int .i64 (a : Int)))] = some (.agg (Hq (s, a))) := by kernel_rfl
def bW {α : Type} (p k : Nat) (ts : List Tk) (fid : Nat) (Rep : AV → α → Prop) (x : Nat → PR α) : Prop := ∀ S i, Cur S p k ts i → p < S.next → i < ts.length → WC E1 fid [.ptr p 0] S (Ku p k ts S Rep (x i))
theorem dQ (b : Nat) : Dt Tryz.prog 54 (.ptr b 0) 3 = some (.ptr b 4) := by kernel_rfl
theorem dP (b : Nat) : Dt Tryz.prog 54 (.ptr b 0) 4 = some (.ptr b 5) := by kernel_rfl
theorem cK {S : St} {id : Nat} {d : PD} (h : S.mem.get id = some (.box (Gp d))) (s : List UInt8) : Du Tryz.prog S 9 (.ptr id 4) (D5 s) = some (S.put id (Gp { d with clock := s })) := by
  have h2 : (D5 s).noTup = true := rfl
  have h3 : (D5 s).cells = [D5 s] := rfl
  simp [Du, h, s9, h2, h3, St.put, Gp]
theorem kU {S : St} {id : Nat} {d : PD} (h : S.mem.get id = some (.box (Gp d))) (o : Bool) : Du Tryz.prog S 4 (.ptr id 5) (.v (.bool o)) = some (S.put id (Gp { d with off := o })) := by
  have h2 : (AV.v (.bool o)).noTup = true := rfl
  have s4 : Fj Tryz.prog 4 = some 1 := by kernel_rfl
  simp [Du, h, s4, h2, AV.cells, St.put, Gp]
section
variable {p k : Nat} {ts : List Tk} (hts : TokOk ts)
include hts

set_option maxHeartbeats 16000000 in
theorem dC : bW p k ts 180 dF (Jl ts) := fun S i h hp hi => by
  obtain ⟨fn1, hf1⟩ := Lc
  refine Ek Tryz.f180 (by kernel_rfl) (by kernel_rfl) (by kernel_rfl) (show (_ : Nat) ≤ _ from by show (_ : Nat) ≤ _; simp [Tryz.f180]) ?_
  unfold Jl
  obtain ⟨x1, c1, br, hp1⟩ := aG bY h hp
  have y2 := x1
  simp only [A3,A6,Bb,Bc,Cr,Bn,B4,C9,Cu,B5,Cs,Ct,Da,Ci,Be,Bo,Bp,A2,A9,Ba,A5,De,B6,Bm,Bh,A8,A4,Bi,Bg,Bf,Bq,Br,B9,Ca,Bv,C0,Cz,C1,A0,A1,C2,Dd,ofOpt,ofOptS,Bw,Dh,Di,Cj,Cl,Bk,Bl,C4,Bj,Df,A7,Bd,Cm,Cn,Co,Cp,Cq,B3,B1,Nat.reduceLT,Nat.reduceAdd,Nat.reduceEqDiff,Aa,Ab,reduceIte,Ac,Ad,Ae,Af,Ag,Ah,Ai,Aj,Ak,Al,Am,Ao,Ap,Aq,Ar,Au,Av,Aw,Option.toList,Ay,Az,Tryz.f180,Cg,Ch,B7,B8,Do,Dp,fp0,Cb,C3,C8,C7,C6,C5,Dm,Dj,Dk,Cw,Ce,B0,Bt,Cf,Bz,By,Cc,Cd,Bs,Cv,Dq,Db,Dg,Cx,Cy,hf1,G4,Fy]
  refine WC.mono (Nn c1 hp1 hi hts 1 (by decide)) ?_
  cases hX3 : F4 ts 1 i with
  | out => exact absurd hX3 (Ip _ _ _)
  | bad a e =>
    rintro _ ⟨S3, rfl, x3⟩
    simp only [A3,A6,Bb,Bc,Cr,Bn,B4,C9,Cu,B5,Cs,Ct,Da,Ci,Be,Bo,Bp,A2,A9,Ba,A5,De,B6,Bm,Bh,A8,A4,Bi,Bg,Bf,Bq,Br,B9,Ca,Bv,C0,Cz,C1,A0,A1,C2,Dd,ofOpt,ofOptS,Bw,Dh,Di,Cj,Cl,Bk,Bl,C4,Bj,Df,A7,Bd,Cm,Cn,Co,Cp,Cq,B3,B1,Nat.reduceLT,Nat.reduceAdd,Nat.reduceEqDiff,Aa,Ab,reduceIte,Ac,Ad,Ae,Af,Ag,Ah,Ai,Aj,Ak,Al,Am,Ao,Ap,Aq,Ar,Au,Av,Aw,Option.toList,Ay,Az,Tryz.f180,Cg,Ch,B7,B8,Do,Dp,fp0,Cb,C3,C8,C7,C6,C5,Dm,Dj,Dk,Cw,Ce,B0,Bt,Cf,Bz,By,Cc,Cd,Bs,Cv,Dq,Db,Dg,Cx,Cy,hf1,G4,Fy]
    exact ⟨_, rfl, y2.trans x3⟩
  | ok a3 j3 =>
    rintro _ ⟨_, S3, rfl, rfl, x3, c3, hi3⟩
    have hp3 : p < S3.next := Nat.lt_of_lt_of_le hp1 x3.1
    have y4 := (y2).trans x3
    have br_4 := br.keep x3
    rw [Ds]
    obtain ⟨S5, q5, x5, c5, bt, hp5⟩ := Eu c3 hp3 a3
    have y6 := (y4).trans x5
    have br_6 := br_4.keep x5
    have lp := bt.pos
    have lt := bt.text
    simp only [A3,A6,Bb,Bc,Cr,Bn,B4,C9,Cu,B5,Cs,Ct,Da,Ci,Be,Bo,Bp,A2,A9,Ba,A5,De,B6,Bm,Bh,A8,A4,Bi,Bg,Bf,Bq,Br,B9,Ca,Bv,C0,Cz,C1,A0,A1,C2,Dd,ofOpt,ofOptS,Bw,Dh,Di,Cj,Cl,Bk,Bl,C4,Bj,Df,A7,Bd,Cm,Cn,Co,Cp,Cq,B3,B1,Nat.reduceLT,Nat.reduceAdd,Nat.reduceEqDiff,Aa,Ab,reduceIte,Ac,Ad,Ae,Af,Ag,Ah,Ai,Aj,Ak,Al,Am,Ao,Ap,Aq,Ar,Au,Av,Aw,Option.toList,Ay,Az,Tryz.f180,Cg,Ch,B7,B8,Do,Dp,fp0,Cb,C3,C8,C7,C6,C5,Dm,Dj,Dk,Cw,Ce,B0,Bt,Cf,Bz,By,Cc,Cd,Bs,Cv,Dq,Db,Dg,Cx,Cy,hf1,G4,Fy,q5,fd1,fa2,lp,lt,b59]
    obtain ⟨g7, h7, gx, gc⟩ := Q1 ag59 Zr (S0 := S) c5 br_6 rfl (Nat.le_refl _) y6 (xs := (Hq (a3.text, a3.pos))) rfl
    simp only [A3,A6,Bb,Bc,Cr,Bn,B4,C9,Cu,B5,Cs,Ct,Da,Ci,Be,Bo,Bp,A2,A9,Ba,A5,De,B6,Bm,Bh,A8,A4,Bi,Bg,Bf,Bq,Br,B9,Ca,Bv,C0,Cz,C1,A0,A1,C2,Dd,ofOpt,ofOptS,Bw,Dh,Di,Cj,Cl,Bk,Bl,C4,Bj,Df,A7,Bd,Cm,Cn,Co,Cp,Cq,B3,B1,Nat.reduceLT,Nat.reduceAdd,Nat.reduceEqDiff,Aa,Ab,reduceIte,Ac,Ad,Ae,Af,Ag,Ah,Ai,Aj,Ak,Al,Am,Ao,Ap,Aq,Ar,Au,Av,Aw,Option.toList,Ay,Az,Tryz.f180,Cg,Ch,B7,B8,Do,Dp,fp0,Cb,C3,C8,C7,C6,C5,Dm,Dj,Dk,Cw,Ce,B0,Bt,Cf,Bz,By,Cc,Cd,Bs,Cv,Dq,Db,Dg,Cx,Cy,hf1,G4,Fy,q5,fd1,fa2,lp,lt,b59,g7,h7]
    exact ⟨_, _, rfl, rfl, gx, gc, hi3⟩
set_option maxHeartbeats 16000000 in
theorem dY : bW p k ts 126 Vc (Ks ts) := fun S i h hp hi => by
  obtain ⟨fn1, hf1⟩ := Lc
  obtain ⟨fn2, hf2⟩ := Hn
  obtain ⟨fn3, hf3⟩ := J6
  refine Ek Tryz.f126 (by kernel_rfl) (by kernel_rfl) (by kernel_rfl) (show (_ : Nat) ≤ _ from by show (_ : Nat) ≤ _; simp [Tryz.f126]) ?_
  unfold Ks
  obtain ⟨x1, c1, br, hp1⟩ := aG Zj h hp
  have y2 := x1
  simp only [A3,A6,Bb,Bc,Cr,Bn,B4,C9,Cu,B5,Cs,Ct,Da,Ci,Be,Bo,Bp,A2,A9,Ba,A5,De,B6,Bm,Bh,A8,A4,Bi,Bg,Bf,Bq,Br,B9,Ca,Bv,C0,Cz,C1,A0,A1,C2,Dd,ofOpt,ofOptS,Bw,Dh,Di,Cj,Cl,Bk,Bl,C4,Bj,Df,A7,Bd,Cm,Cn,Co,Cp,Cq,B3,B1,Nat.reduceLT,Nat.reduceAdd,Nat.reduceEqDiff,Aa,Ab,reduceIte,Ac,Ad,Ae,Af,Ag,Ah,Ai,Aj,Ak,Al,Am,Ao,Ap,Aq,Ar,Au,Av,Aw,Option.toList,Ay,Az,Tryz.f126,Cg,Ch,B7,B8,Do,Dp,fp0,Cb,C3,C8,C7,C6,C5,Dm,Dj,Dk,Cw,Ce,B0,Bt,Cf,Bz,By,Cc,Cd,Bs,Cv,Dq,Db,Dg,Cx,Cy,hf1,hf2,hf3,G4,Fy]
  refine WC.mono (Nn c1 hp1 hi hts 1 (by decide)) ?_
  cases hX3 : F4 ts 1 i with
  | out => exact absurd hX3 (Ip _ _ _)
  | bad a e =>
    rintro _ ⟨S3, rfl, x3⟩
    simp only [A3,A6,Bb,Bc,Cr,Bn,B4,C9,Cu,B5,Cs,Ct,Da,Ci,Be,Bo,Bp,A2,A9,Ba,A5,De,B6,Bm,Bh,A8,A4,Bi,Bg,Bf,Bq,Br,B9,Ca,Bv,C0,Cz,C1,A0,A1,C2,Dd,ofOpt,ofOptS,Bw,Dh,Di,Cj,Cl,Bk,Bl,C4,Bj,Df,A7,Bd,Cm,Cn,Co,Cp,Cq,B3,B1,Nat.reduceLT,Nat.reduceAdd,Nat.reduceEqDiff,Aa,Ab,reduceIte,Ac,Ad,Ae,Af,Ag,Ah,Ai,Aj,Ak,Al,Am,Ao,Ap,Aq,Ar,Au,Av,Aw,Option.toList,Ay,Az,Tryz.f126,Cg,Ch,B7,B8,Do,Dp,fp0,Cb,C3,C8,C7,C6,C5,Dm,Dj,Dk,Cw,Ce,B0,Bt,Cf,Bz,By,Cc,Cd,Bs,Cv,Dq,Db,Dg,Cx,Cy,hf1,hf2,hf3,G4,Fy]
    exact ⟨_, rfl, y2.trans x3⟩
  | ok a3 j3 =>
    rintro _ ⟨_, S3, rfl, rfl, x3, c3, hi3⟩
    have hp3 : p < S3.next := Nat.lt_of_lt_of_le hp1 x3.1
    have y4 := (y2).trans x3
    have br_4 := br.keep x3
    rw [Ds]
    obtain ⟨S5, q5, x5, c5, bt, hp5⟩ := Eu c3 hp3 a3
    have y6 := (y4).trans x5
    have br_6 := br_4.keep x5
    simp only [A3,A6,Bb,Bc,Cr,Bn,B4,C9,Cu,B5,Cs,Ct,Da,Ci,Be,Bo,Bp,A2,A9,Ba,A5,De,B6,Bm,Bh,A8,A4,Bi,Bg,Bf,Bq,Br,B9,Ca,Bv,C0,Cz,C1,A0,A1,C2,Dd,ofOpt,ofOptS,Bw,Dh,Di,Cj,Cl,Bk,Bl,C4,Bj,Df,A7,Bd,Cm,Cn,Co,Cp,Cq,B3,B1,Nat.reduceLT,Nat.reduceAdd,Nat.reduceEqDiff,Aa,Ab,reduceIte,Ac,Ad,Ae,Af,Ag,Ah,Ai,Aj,Ak,Al,Am,Ao,Ap,Aq,Ar,Au,Av,Aw,Option.toList,Ay,Az,Tryz.f126,Cg,Ch,B7,B8,Do,Dp,fp0,Cb,C3,C8,C7,C6,C5,Dm,Dj,Dk,Cw,Ce,B0,Bt,Cf,Bz,By,Cc,Cd,Bs,Cv,Dq,Db,Dg,Cx,Cy,hf1,hf2,hf3,G4,Fy,q5]
    refine WC.mono (Ge c5 hp5 hi3 hts 1 0 [[58]] (by decide) (by decide)) ?_
    cases hX7 : Ec ts [[58]] j3 with
    | out => exact absurd hX7 (Fq _ _ _)
    | bad a e =>
      rintro _ ⟨S7, rfl, x7⟩
      simp only [A3,A6,Bb,Bc,Cr,Bn,B4,C9,Cu,B5,Cs,Ct,Da,Ci,Be,Bo,Bp,A2,A9,Ba,A5,De,B6,Bm,Bh,A8,A4,Bi,Bg,Bf,Bq,Br,B9,Ca,Bv,C0,Cz,C1,A0,A1,C2,Dd,ofOpt,ofOptS,Bw,Dh,Di,Cj,Cl,Bk,Bl,C4,Bj,Df,A7,Bd,Cm,Cn,Co,Cp,Cq,B3,B1,Nat.reduceLT,Nat.reduceAdd,Nat.reduceEqDiff,Aa,Ab,reduceIte,Ac,Ad,Ae,Af,Ag,Ah,Ai,Aj,Ak,Al,Am,Ao,Ap,Aq,Ar,Au,Av,Aw,Option.toList,Ay,Az,Tryz.f126,Cg,Ch,B7,B8,Do,Dp,fp0,Cb,C3,C8,C7,C6,C5,Dm,Dj,Dk,Cw,Ce,B0,Bt,Cf,Bz,By,Cc,Cd,Bs,Cv,Dq,Db,Dg,Cx,Cy,hf1,hf2,hf3,G4,Fy,q5]
      exact ⟨_, rfl, y6.trans x7⟩
    | ok a7 j7 =>
      rintro _ ⟨_, S7, rfl, rfl, x7, c7, hi7⟩
      have hp7 : p < S7.next := Nat.lt_of_lt_of_le hp5 x7.1
      have y8 := (y6).trans x7
      have br_8 := br_6.keep x7
      have bt_8 := bt.keep x7
      rw [Ds]
      by_cases hm : (tk ts j7).text ∈ [[102, 117, 116, 117, 114, 101]]
      · rw [if_pos hm]
        simp only [A3,A6,Bb,Bc,Cr,Bn,B4,C9,Cu,B5,Cs,Ct,Da,Ci,Be,Bo,Bp,A2,A9,Ba,A5,De,B6,Bm,Bh,A8,A4,Bi,Bg,Bf,Bq,Br,B9,Ca,Bv,C0,Cz,C1,A0,A1,C2,Dd,ofOpt,ofOptS,Bw,Dh,Di,Cj,Cl,Bk,Bl,C4,Bj,Df,A7,Bd,Cm,Cn,Co,Cp,Cq,B3,B1,Nat.reduceLT,Nat.reduceAdd,Nat.reduceEqDiff,Aa,Ab,reduceIte,Ac,Ad,Ae,Af,Ag,Ah,Ai,Aj,Ak,Al,Am,Ao,Ap,Aq,Ar,Au,Av,Aw,Option.toList,Ay,Az,Tryz.f126,Cg,Ch,B7,B8,Do,Dp,fp0,Cb,C3,C8,C7,C6,C5,Dm,Dj,Dk,Cw,Ce,B0,Bt,Cf,Bz,By,Cc,Cd,Bs,Cv,Dq,Db,Dg,Cx,Cy,hf1,hf2,hf3,G4,Fy,q5]
        refine WC.mono (Hw c7 hp7 hi7 hts 1 0 [[102, 117, 116, 117, 114, 101]] (by decide) (by decide) hm) ?_
        rintro _ ⟨S9, rfl, x9, c9, hi9, hp9⟩
        have y10 := (y8).trans x9
        have br_10 := br_8.keep x9
        have bt_10 := bt_8.keep x9
        obtain ⟨S11, q11, x11, c11, bf, hp11⟩ := Eu c9 hp9 (tk ts j7)
        have y12 := (y10).trans x11
        have br_12 := br_10.keep x11
        have bt_12 := bt_10.keep x11
        simp only [A3,A6,Bb,Bc,Cr,Bn,B4,C9,Cu,B5,Cs,Ct,Da,Ci,Be,Bo,Bp,A2,A9,Ba,A5,De,B6,Bm,Bh,A8,A4,Bi,Bg,Bf,Bq,Br,B9,Ca,Bv,C0,Cz,C1,A0,A1,C2,Dd,ofOpt,ofOptS,Bw,Dh,Di,Cj,Cl,Bk,Bl,C4,Bj,Df,A7,Bd,Cm,Cn,Co,Cp,Cq,B3,B1,Nat.reduceLT,Nat.reduceAdd,Nat.reduceEqDiff,Aa,Ab,reduceIte,Ac,Ad,Ae,Af,Ag,Ah,Ai,Aj,Ak,Al,Am,Ao,Ap,Aq,Ar,Au,Av,Aw,Option.toList,Ay,Az,Tryz.f126,Cg,Ch,B7,B8,Do,Dp,fp0,Cb,C3,C8,C7,C6,C5,Dm,Dj,Dk,Cw,Ce,B0,Bt,Cf,Bz,By,Cc,Cd,Bs,Cv,Dq,Db,Dg,Cx,Cy,hf1,hf2,hf3,G4,Fy,q5,q11]
        refine WC.mono (Ge c11 hp11 hi9 hts 1 0 [[105, 110, 116], [98, 111, 111, 108]] (by decide) (by decide)) ?_
        cases hX13 : Ec ts [[105, 110, 116], [98, 111, 111, 108]] (j7 + 1) with
        | out => exact absurd hX13 (Fq _ _ _)
        | bad a e =>
          rintro _ ⟨S13, rfl, x13⟩
          simp only [A3,A6,Bb,Bc,Cr,Bn,B4,C9,Cu,B5,Cs,Ct,Da,Ci,Be,Bo,Bp,A2,A9,Ba,A5,De,B6,Bm,Bh,A8,A4,Bi,Bg,Bf,Bq,Br,B9,Ca,Bv,C0,Cz,C1,A0,A1,C2,Dd,ofOpt,ofOptS,Bw,Dh,Di,Cj,Cl,Bk,Bl,C4,Bj,Df,A7,Bd,Cm,Cn,Co,Cp,Cq,B3,B1,Nat.reduceLT,Nat.reduceAdd,Nat.reduceEqDiff,Aa,Ab,reduceIte,Ac,Ad,Ae,Af,Ag,Ah,Ai,Aj,Ak,Al,Am,Ao,Ap,Aq,Ar,Au,Av,Aw,Option.toList,Ay,Az,Tryz.f126,Cg,Ch,B7,B8,Do,Dp,fp0,Cb,C3,C8,C7,C6,C5,Dm,Dj,Dk,Cw,Ce,B0,Bt,Cf,Bz,By,Cc,Cd,Bs,Cv,Dq,Db,Dg,Cx,Cy,hf1,hf2,hf3,G4,Fy,q5,q11]
          exact ⟨_, rfl, y12.trans x13⟩
        | ok a13 j13 =>
          rintro _ ⟨_, S13, rfl, rfl, x13, c13, hi13⟩
          have hp13 : p < S13.next := Nat.lt_of_lt_of_le hp11 x13.1
          have y14 := (y12).trans x13
          have br_14 := br_12.keep x13
          have bt_14 := bt_12.keep x13
          have bf_14 := bf.keep x13
          rw [Ds]
          obtain ⟨S15, q15, x15, c15, bu, hp15⟩ := Eu c13 hp13 a13
          have y16 := (y14).trans x15
          have br_16 := br_14.keep x15
          have bt_16 := bt_14.keep x15
          have bf_16 := bf_14.keep x15
          have lp := bt_16.pos
          have lt := bt_16.text
          have lu := bu.text
          simp only [A3,A6,Bb,Bc,Cr,Bn,B4,C9,Cu,B5,Cs,Ct,Da,Ci,Be,Bo,Bp,A2,A9,Ba,A5,De,B6,Bm,Bh,A8,A4,Bi,Bg,Bf,Bq,Br,B9,Ca,Bv,C0,Cz,C1,A0,A1,C2,Dd,ofOpt,ofOptS,Bw,Dh,Di,Cj,Cl,Bk,Bl,C4,Bj,Df,A7,Bd,Cm,Cn,Co,Cp,Cq,B3,B1,Nat.reduceLT,Nat.reduceAdd,Nat.reduceEqDiff,Aa,Ab,reduceIte,Ac,Ad,Ae,Af,Ag,Ah,Ai,Aj,Ak,Al,Am,Ao,Ap,Aq,Ar,Au,Av,Aw,Option.toList,Ay,Az,Tryz.f126,Cg,Ch,B7,B8,Do,Dp,fp0,Cb,C3,C8,C7,C6,C5,Dm,Dj,Dk,Cw,Ce,B0,Bt,Cf,Bz,By,Cc,Cd,Bs,Cv,Dq,Db,Dg,Cx,Cy,hf1,hf2,hf3,G4,Fy,q5,q11,q15,fd1,fa2,lp,lt,lu,Gf,Ht,b52,b54]
          obtain ⟨g17, h17, gx, gc⟩ := Q1 eE T8 (S0 := S) c15 br_16 rfl (Nat.le_refl _) y16 (xs := (Gp ⟨a3.text, a3.pos, decide (a13.text = [98, 111, 111, 108]), true, [], false⟩)) rfl
          simp only [A3,A6,Bb,Bc,Cr,Bn,B4,C9,Cu,B5,Cs,Ct,Da,Ci,Be,Bo,Bp,A2,A9,Ba,A5,De,B6,Bm,Bh,A8,A4,Bi,Bg,Bf,Bq,Br,B9,Ca,Bv,C0,Cz,C1,A0,A1,C2,Dd,ofOpt,ofOptS,Bw,Dh,Di,Cj,Cl,Bk,Bl,C4,Bj,Df,A7,Bd,Cm,Cn,Co,Cp,Cq,B3,B1,Nat.reduceLT,Nat.reduceAdd,Nat.reduceEqDiff,Aa,Ab,reduceIte,Ac,Ad,Ae,Af,Ag,Ah,Ai,Aj,Ak,Al,Am,Ao,Ap,Aq,Ar,Au,Av,Aw,Option.toList,Ay,Az,Tryz.f126,Cg,Ch,B7,B8,Do,Dp,fp0,Cb,C3,C8,C7,C6,C5,Dm,Dj,Dk,Cw,Ce,B0,Bt,Cf,Bz,By,Cc,Cd,Bs,Cv,Dq,Db,Dg,Cx,Cy,hf1,hf2,hf3,G4,Fy,q5,q11,q15,fd1,fa2,lp,lt,lu,Gf,Ht,b52,b54,g17,h17]
          exact ⟨_, _, rfl, rfl, gx, gc, hi13⟩
      · rw [if_neg hm]
        simp only [A3,A6,Bb,Bc,Cr,Bn,B4,C9,Cu,B5,Cs,Ct,Da,Ci,Be,Bo,Bp,A2,A9,Ba,A5,De,B6,Bm,Bh,A8,A4,Bi,Bg,Bf,Bq,Br,B9,Ca,Bv,C0,Cz,C1,A0,A1,C2,Dd,ofOpt,ofOptS,Bw,Dh,Di,Cj,Cl,Bk,Bl,C4,Bj,Df,A7,Bd,Cm,Cn,Co,Cp,Cq,B3,B1,Nat.reduceLT,Nat.reduceAdd,Nat.reduceEqDiff,Aa,Ab,reduceIte,Ac,Ad,Ae,Af,Ag,Ah,Ai,Aj,Ak,Al,Am,Ao,Ap,Aq,Ar,Au,Av,Aw,Option.toList,Ay,Az,Tryz.f126,Cg,Ch,B7,B8,Do,Dp,fp0,Cb,C3,C8,C7,C6,C5,Dm,Dj,Dk,Cw,Ce,B0,Bt,Cf,Bz,By,Cc,Cd,Bs,Cv,Dq,Db,Dg,Cx,Cy,hf1,hf2,hf3,G4,Fy,q5]
        refine WC.mono (Iv c7 hp7 hi7 hts 1 0 [[102, 117, 116, 117, 114, 101]] (by decide) hm) ?_
        rintro _ ⟨S18, rfl, x18, c18, hi18, hp18⟩
        have y19 := (y8).trans x18
        have br_19 := br_8.keep x18
        have bt_19 := bt_8.keep x18
        obtain ⟨S20, q20, x20, c20, bf, hp20⟩ := Eu c18 hp18 Dx
        have y21 := (y19).trans x20
        have br_21 := br_19.keep x20
        have bt_21 := bt_19.keep x20
        simp only [A3,A6,Bb,Bc,Cr,Bn,B4,C9,Cu,B5,Cs,Ct,Da,Ci,Be,Bo,Bp,A2,A9,Ba,A5,De,B6,Bm,Bh,A8,A4,Bi,Bg,Bf,Bq,Br,B9,Ca,Bv,C0,Cz,C1,A0,A1,C2,Dd,ofOpt,ofOptS,Bw,Dh,Di,Cj,Cl,Bk,Bl,C4,Bj,Df,A7,Bd,Cm,Cn,Co,Cp,Cq,B3,B1,Nat.reduceLT,Nat.reduceAdd,Nat.reduceEqDiff,Aa,Ab,reduceIte,Ac,Ad,Ae,Af,Ag,Ah,Ai,Aj,Ak,Al,Am,Ao,Ap,Aq,Ar,Au,Av,Aw,Option.toList,Ay,Az,Tryz.f126,Cg,Ch,B7,B8,Do,Dp,fp0,Cb,C3,C8,C7,C6,C5,Dm,Dj,Dk,Cw,Ce,B0,Bt,Cf,Bz,By,Cc,Cd,Bs,Cv,Dq,Db,Dg,Cx,Cy,hf1,hf2,hf3,G4,Fy,q5,q20]
        refine WC.mono (Ge c20 hp20 hi18 hts 1 0 [[105, 110, 116], [98, 111, 111, 108]] (by decide) (by decide)) ?_
        cases hX22 : Ec ts [[105, 110, 116], [98, 111, 111, 108]] j7 with
        | out => exact absurd hX22 (Fq _ _ _)
        | bad a e =>
          rintro _ ⟨S22, rfl, x22⟩
          simp only [A3,A6,Bb,Bc,Cr,Bn,B4,C9,Cu,B5,Cs,Ct,Da,Ci,Be,Bo,Bp,A2,A9,Ba,A5,De,B6,Bm,Bh,A8,A4,Bi,Bg,Bf,Bq,Br,B9,Ca,Bv,C0,Cz,C1,A0,A1,C2,Dd,ofOpt,ofOptS,Bw,Dh,Di,Cj,Cl,Bk,Bl,C4,Bj,Df,A7,Bd,Cm,Cn,Co,Cp,Cq,B3,B1,Nat.reduceLT,Nat.reduceAdd,Nat.reduceEqDiff,Aa,Ab,reduceIte,Ac,Ad,Ae,Af,Ag,Ah,Ai,Aj,Ak,Al,Am,Ao,Ap,Aq,Ar,Au,Av,Aw,Option.toList,Ay,Az,Tryz.f126,Cg,Ch,B7,B8,Do,Dp,fp0,Cb,C3,C8,C7,C6,C5,Dm,Dj,Dk,Cw,Ce,B0,Bt,Cf,Bz,By,Cc,Cd,Bs,Cv,Dq,Db,Dg,Cx,Cy,hf1,hf2,hf3,G4,Fy,q5,q20]
          exact ⟨_, rfl, y21.trans x22⟩
        | ok a22 j22 =>
          rintro _ ⟨_, S22, rfl, rfl, x22, c22, hi22⟩
          have hp22 : p < S22.next := Nat.lt_of_lt_of_le hp20 x22.1
          have y23 := (y21).trans x22
          have br_23 := br_21.keep x22
          have bt_23 := bt_21.keep x22
          have bf_23 := bf.keep x22
          rw [Ds]
          obtain ⟨S24, q24, x24, c24, bu, hp24⟩ := Eu c22 hp22 a22
          have y25 := (y23).trans x24
          have br_25 := br_23.keep x24
          have bt_25 := bt_23.keep x24
          have bf_25 := bf_23.keep x24
          have lp := bt_25.pos
          have lt := bt_25.text
          have lu := bu.text
          simp only [A3,A6,Bb,Bc,Cr,Bn,B4,C9,Cu,B5,Cs,Ct,Da,Ci,Be,Bo,Bp,A2,A9,Ba,A5,De,B6,Bm,Bh,A8,A4,Bi,Bg,Bf,Bq,Br,B9,Ca,Bv,C0,Cz,C1,A0,A1,C2,Dd,ofOpt,ofOptS,Bw,Dh,Di,Cj,Cl,Bk,Bl,C4,Bj,Df,A7,Bd,Cm,Cn,Co,Cp,Cq,B3,B1,Nat.reduceLT,Nat.reduceAdd,Nat.reduceEqDiff,Aa,Ab,reduceIte,Ac,Ad,Ae,Af,Ag,Ah,Ai,Aj,Ak,Al,Am,Ao,Ap,Aq,Ar,Au,Av,Aw,Option.toList,Ay,Az,Tryz.f126,Cg,Ch,B7,B8,Do,Dp,fp0,Cb,C3,C8,C7,C6,C5,Dm,Dj,Dk,Cw,Ce,B0,Bt,Cf,Bz,By,Cc,Cd,Bs,Cv,Dq,Db,Dg,Cx,Cy,hf1,hf2,hf3,G4,Fy,q5,q20,q24,fd1,fa2,lp,lt,lu,Gf,Ht,b52,b54]
          obtain ⟨g26, h26, gx, gc⟩ := Q1 eE T8 (S0 := S) c24 br_25 rfl (Nat.le_refl _) y25 (xs := (Gp ⟨a3.text, a3.pos, decide (a22.text = [98, 111, 111, 108]), false, [], false⟩)) rfl
          simp only [A3,A6,Bb,Bc,Cr,Bn,B4,C9,Cu,B5,Cs,Ct,Da,Ci,Be,Bo,Bp,A2,A9,Ba,A5,De,B6,Bm,Bh,A8,A4,Bi,Bg,Bf,Bq,Br,B9,Ca,Bv,C0,Cz,C1,A0,A1,C2,Dd,ofOpt,ofOptS,Bw,Dh,Di,Cj,Cl,Bk,Bl,C4,Bj,Df,A7,Bd,Cm,Cn,Co,Cp,Cq,B3,B1,Nat.reduceLT,Nat.reduceAdd,Nat.reduceEqDiff,Aa,Ab,reduceIte,Ac,Ad,Ae,Af,Ag,Ah,Ai,Aj,Ak,Al,Am,Ao,Ap,Aq,Ar,Au,Av,Aw,Option.toList,Ay,Az,Tryz.f126,Cg,Ch,B7,B8,Do,Dp,fp0,Cb,C3,C8,C7,C6,C5,Dm,Dj,Dk,Cw,Ce,B0,Bt,Cf,Bz,By,Cc,Cd,Bs,Cv,Dq,Db,Dg,Cx,Cy,hf1,hf2,hf3,G4,Fy,q5,q20,q24,fd1,fa2,lp,lt,lu,Gf,Ht,b52,b54,g26,h26]
          exact ⟨_, _, rfl, rfl, gx, gc, hi22⟩
set_option maxHeartbeats 16000000 in
theorem Xq : bW p k ts 157 Vc (G3 ts) := fun S i h hp hi => by
  obtain ⟨fn1, hf1⟩ := Y3
  obtain ⟨fn2, hf2⟩ := Hn
  obtain ⟨fn3, hf3⟩ := fT
  obtain ⟨fn4, hf4⟩ := J6
  refine Ek Tryz.f157 (by kernel_rfl) (by kernel_rfl) (by kernel_rfl) (show (_ : Nat) ≤ _ from by show (_ : Nat) ≤ _; simp [Tryz.f157]) ?_
  unfold G3
  obtain ⟨x1, c1, br, hp1⟩ := aG Zj h hp
  have y2 := x1
  simp only [A3,A6,Bb,Bc,Cr,Bn,B4,C9,Cu,B5,Cs,Ct,Da,Ci,Be,Bo,Bp,A2,A9,Ba,A5,De,B6,Bm,Bh,A8,A4,Bi,Bg,Bf,Bq,Br,B9,Ca,Bv,C0,Cz,C1,A0,A1,C2,Dd,ofOpt,ofOptS,Bw,Dh,Di,Cj,Cl,Bk,Bl,C4,Bj,Df,A7,Bd,Cm,Cn,Co,Cp,Cq,B3,B1,Nat.reduceLT,Nat.reduceAdd,Nat.reduceEqDiff,Aa,Ab,reduceIte,Ac,Ad,Ae,Af,Ag,Ah,Ai,Aj,Ak,Al,Am,Ao,Ap,Aq,Ar,Au,Av,Aw,Option.toList,Ay,Az,Tryz.f157,Cg,Ch,B7,B8,Do,Dp,fp0,Cb,C3,C8,C7,C6,C5,Dm,Dj,Dk,Cw,Ce,B0,Bt,Cf,Bz,By,Cc,Cd,Bs,Cv,Dq,Db,Dg,Cx,Cy,hf1,hf2,hf3,hf4,G4,Fy]
  refine WC.mono (dY hts _ _ c1 hp1 hi) ?_
  cases hX3 : Ks ts i with
  | out => exact absurd hX3 (Rd _ _)
  | bad a e =>
    rintro _ ⟨S3, rfl, x3⟩
    simp only [A3,A6,Bb,Bc,Cr,Bn,B4,C9,Cu,B5,Cs,Ct,Da,Ci,Be,Bo,Bp,A2,A9,Ba,A5,De,B6,Bm,Bh,A8,A4,Bi,Bg,Bf,Bq,Br,B9,Ca,Bv,C0,Cz,C1,A0,A1,C2,Dd,ofOpt,ofOptS,Bw,Dh,Di,Cj,Cl,Bk,Bl,C4,Bj,Df,A7,Bd,Cm,Cn,Co,Cp,Cq,B3,B1,Nat.reduceLT,Nat.reduceAdd,Nat.reduceEqDiff,Aa,Ab,reduceIte,Ac,Ad,Ae,Af,Ag,Ah,Ai,Aj,Ak,Al,Am,Ao,Ap,Aq,Ar,Au,Av,Aw,Option.toList,Ay,Az,Tryz.f157,Cg,Ch,B7,B8,Do,Dp,fp0,Cb,C3,C8,C7,C6,C5,Dm,Dj,Dk,Cw,Ce,B0,Bt,Cf,Bz,By,Cc,Cd,Bs,Cv,Dq,Db,Dg,Cx,Cy,hf1,hf2,hf3,hf4,G4,Fy]
    exact ⟨_, rfl, y2.trans x3⟩
  | ok a3 j3 =>
    rintro _ ⟨_, S3, rfl, rfl, x3, c3, hi3⟩
    have hp3 : p < S3.next := Nat.lt_of_lt_of_le hp1 x3.1
    have y4 := (y2).trans x3
    have br_4 := br.keep x3
    rw [Ds]
    have hda : Ga a3 = .agg (Gp a3) := rfl
    obtain ⟨S5, q5, x5, c5, bd, hp5⟩ := gN T8 Zj rfl c3 hp3 (xs := Gp a3) rfl
    have y6 := (y4).trans x5
    have br_6 := br_4.keep x5
    by_cases hm : (tk ts j3).text ∈ [[119, 104, 101, 110]]
    · rw [if_pos hm]
      simp only [A3,A6,Bb,Bc,Cr,Bn,B4,C9,Cu,B5,Cs,Ct,Da,Ci,Be,Bo,Bp,A2,A9,Ba,A5,De,B6,Bm,Bh,A8,A4,Bi,Bg,Bf,Bq,Br,B9,Ca,Bv,C0,Cz,C1,A0,A1,C2,Dd,ofOpt,ofOptS,Bw,Dh,Di,Cj,Cl,Bk,Bl,C4,Bj,Df,A7,Bd,Cm,Cn,Co,Cp,Cq,B3,B1,Nat.reduceLT,Nat.reduceAdd,Nat.reduceEqDiff,Aa,Ab,reduceIte,Ac,Ad,Ae,Af,Ag,Ah,Ai,Aj,Ak,Al,Am,Ao,Ap,Aq,Ar,Au,Av,Aw,Option.toList,Ay,Az,Tryz.f157,Cg,Ch,B7,B8,Do,Dp,fp0,Cb,C3,C8,C7,C6,C5,Dm,Dj,Dk,Cw,Ce,B0,Bt,Cf,Bz,By,Cc,Cd,Bs,Cv,Dq,Db,Dg,Cx,Cy,hf1,hf2,hf3,hf4,G4,Fy,hda,q5]
      refine WC.mono (Hw c5 hp5 hi3 hts 1 0 [[119, 104, 101, 110]] (by decide) (by decide) hm) ?_
      rintro _ ⟨S7, rfl, x7, c7, hi7, hp7⟩
      have y8 := (y6).trans x7
      have br_8 := br_6.keep x7
      have bd_8 := bd.keep x7
      obtain ⟨S9, q9, x9, c9, bt, hp9⟩ := Eu c7 hp7 (tk ts j3)
      have y10 := (y8).trans x9
      have br_10 := br_8.keep x9
      have bd_10 := bd_8.keep x9
      simp only [A3,A6,Bb,Bc,Cr,Bn,B4,C9,Cu,B5,Cs,Ct,Da,Ci,Be,Bo,Bp,A2,A9,Ba,A5,De,B6,Bm,Bh,A8,A4,Bi,Bg,Bf,Bq,Br,B9,Ca,Bv,C0,Cz,C1,A0,A1,C2,Dd,ofOpt,ofOptS,Bw,Dh,Di,Cj,Cl,Bk,Bl,C4,Bj,Df,A7,Bd,Cm,Cn,Co,Cp,Cq,B3,B1,Nat.reduceLT,Nat.reduceAdd,Nat.reduceEqDiff,Aa,Ab,reduceIte,Ac,Ad,Ae,Af,Ag,Ah,Ai,Aj,Ak,Al,Am,Ao,Ap,Aq,Ar,Au,Av,Aw,Option.toList,Ay,Az,Tryz.f157,Cg,Ch,B7,B8,Do,Dp,fp0,Cb,C3,C8,C7,C6,C5,Dm,Dj,Dk,Cw,Ce,B0,Bt,Cf,Bz,By,Cc,Cd,Bs,Cv,Dq,Db,Dg,Cx,Cy,hf1,hf2,hf3,hf4,G4,Fy,hda,q5,q9]
      have hne : S3.next ≠ S.next := by have := br_4.lt; omega
      refine WC.mono (gM _ _ _ _ _ c9 hp9 hi7 hts) ?_
      cases hX11 : Ky ts (j3 + 1) with
      | out => exact absurd hX11 (Xr _ _)
      | bad a e =>
        rintro _ ⟨S11, rfl, x11⟩
        simp only [A3,A6,Bb,Bc,Cr,Bn,B4,C9,Cu,B5,Cs,Ct,Da,Ci,Be,Bo,Bp,A2,A9,Ba,A5,De,B6,Bm,Bh,A8,A4,Bi,Bg,Bf,Bq,Br,B9,Ca,Bv,C0,Cz,C1,A0,A1,C2,Dd,ofOpt,ofOptS,Bw,Dh,Di,Cj,Cl,Bk,Bl,C4,Bj,Df,A7,Bd,Cm,Cn,Co,Cp,Cq,B3,B1,Nat.reduceLT,Nat.reduceAdd,Nat.reduceEqDiff,Aa,Ab,reduceIte,Ac,Ad,Ae,Af,Ag,Ah,Ai,Aj,Ak,Al,Am,Ao,Ap,Aq,Ar,Au,Av,Aw,Option.toList,Ay,Az,Tryz.f157,Cg,Ch,B7,B8,Do,Dp,fp0,Cb,C3,C8,C7,C6,C5,Dm,Dj,Dk,Cw,Ce,B0,Bt,Cf,Bz,By,Cc,Cd,Bs,Cv,Dq,Db,Dg,Cx,Cy,hf1,hf2,hf3,hf4,G4,Fy,hda,q5,q9]
        exact ⟨_, rfl, y10.trans x11⟩
      | ok a11 j11 =>
        rintro _ ⟨_, S11, rfl, rfl, x11, c11, hi11⟩
        have hp11 : p < S11.next := Nat.lt_of_lt_of_le hp9 x11.1
        have y12 := (y10).trans x11
        have br_12 := br_10.keep x11
        have bd_12 := bd_10.keep x11
        have bt_12 := bt.keep x11
        rw [Ds]
        have st901 := cK bd_12.get a11.1
        obtain ⟨px901, pc901, pb901, pr901⟩ := Pe (ys := Gp { a3 with clock := a11.1 }) y12 y4.1 bd_12 c11 br_12 hne
        have st902 := kU (d := { a3 with clock := a11.1 }) pb901.get a11.2
        obtain ⟨px902, pc902, pb902, pr902⟩ := Pe (ys := Gp { a3 with clock := a11.1, off := a11.2 }) px901 y4.1 pb901 pc901 pr901 hne
        simp only [A3,A6,Bb,Bc,Cr,Bn,B4,C9,Cu,B5,Cs,Ct,Da,Ci,Be,Bo,Bp,A2,A9,Ba,A5,De,B6,Bm,Bh,A8,A4,Bi,Bg,Bf,Bq,Br,B9,Ca,Bv,C0,Cz,C1,A0,A1,C2,Dd,ofOpt,ofOptS,Bw,Dh,Di,Cj,Cl,Bk,Bl,C4,Bj,Df,A7,Bd,Cm,Cn,Co,Cp,Cq,B3,B1,Nat.reduceLT,Nat.reduceAdd,Nat.reduceEqDiff,Aa,Ab,reduceIte,Ac,Ad,Ae,Af,Ag,Ah,Ai,Aj,Ak,Al,Am,Ao,Ap,Aq,Ar,Au,Av,Aw,Option.toList,Ay,Az,Tryz.f157,Cg,Ch,B7,B8,Do,Dp,fp0,Cb,C3,C8,C7,C6,C5,Dm,Dj,Dk,Cw,Ce,B0,Bt,Cf,Bz,By,Cc,Cd,Bs,Cv,Dq,Db,Dg,Cx,Cy,hf1,hf2,hf3,hf4,G4,Fy,hda,q5,q9,dQ,dP,st901,st902]
        refine WC.mono (Ge pc902 hp11 hi11 hts 1 0 [[59]] (by decide) (by decide)) ?_
        cases hX13 : Ec ts [[59]] j11 with
        | out => exact absurd hX13 (Fq _ _ _)
        | bad a e =>
          rintro _ ⟨S13, rfl, x13⟩
          simp only [A3,A6,Bb,Bc,Cr,Bn,B4,C9,Cu,B5,Cs,Ct,Da,Ci,Be,Bo,Bp,A2,A9,Ba,A5,De,B6,Bm,Bh,A8,A4,Bi,Bg,Bf,Bq,Br,B9,Ca,Bv,C0,Cz,C1,A0,A1,C2,Dd,ofOpt,ofOptS,Bw,Dh,Di,Cj,Cl,Bk,Bl,C4,Bj,Df,A7,Bd,Cm,Cn,Co,Cp,Cq,B3,B1,Nat.reduceLT,Nat.reduceAdd,Nat.reduceEqDiff,Aa,Ab,reduceIte,Ac,Ad,Ae,Af,Ag,Ah,Ai,Aj,Ak,Al,Am,Ao,Ap,Aq,Ar,Au,Av,Aw,Option.toList,Ay,Az,Tryz.f157,Cg,Ch,B7,B8,Do,Dp,fp0,Cb,C3,C8,C7,C6,C5,Dm,Dj,Dk,Cw,Ce,B0,Bt,Cf,Bz,By,Cc,Cd,Bs,Cv,Dq,Db,Dg,Cx,Cy,hf1,hf2,hf3,hf4,G4,Fy,hda,q5,q9,dQ,dP,st901,st902]
          exact ⟨_, rfl, px902.trans x13⟩
        | ok a13 j13 =>
          rintro _ ⟨_, S13, rfl, rfl, x13, c13, hi13⟩
          have hp13 : p < S13.next := Nat.lt_of_lt_of_le hp11 x13.1
          have y14 := (px902).trans x13
          have bd_14 := pb902.keep x13
          have br_14 := pr902.keep x13
          rw [Ds]
          have l15 := ldG eE T8 bd_14.get rfl
          obtain ⟨g16, h16, gx, gc⟩ := Q1 eE T8 (S0 := S) c13 br_14 rfl (Nat.le_refl _) y14 (xs := (Gp { a3 with clock := a11.1, off := a11.2 })) rfl
          simp only [A3,A6,Bb,Bc,Cr,Bn,B4,C9,Cu,B5,Cs,Ct,Da,Ci,Be,Bo,Bp,A2,A9,Ba,A5,De,B6,Bm,Bh,A8,A4,Bi,Bg,Bf,Bq,Br,B9,Ca,Bv,C0,Cz,C1,A0,A1,C2,Dd,ofOpt,ofOptS,Bw,Dh,Di,Cj,Cl,Bk,Bl,C4,Bj,Df,A7,Bd,Cm,Cn,Co,Cp,Cq,B3,B1,Nat.reduceLT,Nat.reduceAdd,Nat.reduceEqDiff,Aa,Ab,reduceIte,Ac,Ad,Ae,Af,Ag,Ah,Ai,Aj,Ak,Al,Am,Ao,Ap,Aq,Ar,Au,Av,Aw,Option.toList,Ay,Az,Tryz.f157,Cg,Ch,B7,B8,Do,Dp,fp0,Cb,C3,C8,C7,C6,C5,Dm,Dj,Dk,Cw,Ce,B0,Bt,Cf,Bz,By,Cc,Cd,Bs,Cv,Dq,Db,Dg,Cx,Cy,hf1,hf2,hf3,hf4,G4,Fy,hda,q5,q9,dQ,dP,st901,st902,l15,g16,h16]
          exact ⟨_, _, rfl, rfl, gx, gc, hi13⟩
    · rw [if_neg hm]
      simp only [A3,A6,Bb,Bc,Cr,Bn,B4,C9,Cu,B5,Cs,Ct,Da,Ci,Be,Bo,Bp,A2,A9,Ba,A5,De,B6,Bm,Bh,A8,A4,Bi,Bg,Bf,Bq,Br,B9,Ca,Bv,C0,Cz,C1,A0,A1,C2,Dd,ofOpt,ofOptS,Bw,Dh,Di,Cj,Cl,Bk,Bl,C4,Bj,Df,A7,Bd,Cm,Cn,Co,Cp,Cq,B3,B1,Nat.reduceLT,Nat.reduceAdd,Nat.reduceEqDiff,Aa,Ab,reduceIte,Ac,Ad,Ae,Af,Ag,Ah,Ai,Aj,Ak,Al,Am,Ao,Ap,Aq,Ar,Au,Av,Aw,Option.toList,Ay,Az,Tryz.f157,Cg,Ch,B7,B8,Do,Dp,fp0,Cb,C3,C8,C7,C6,C5,Dm,Dj,Dk,Cw,Ce,B0,Bt,Cf,Bz,By,Cc,Cd,Bs,Cv,Dq,Db,Dg,Cx,Cy,hf1,hf2,hf3,hf4,G4,Fy,hda,q5]
      refine WC.mono (Iv c5 hp5 hi3 hts 1 0 [[119, 104, 101, 110]] (by decide) hm) ?_
      rintro _ ⟨S17, rfl, x17, c17, hi17, hp17⟩
      have y18 := (y6).trans x17
      have br_18 := br_6.keep x17
      have bd_18 := bd.keep x17
      obtain ⟨S19, q19, x19, c19, bt, hp19⟩ := Eu c17 hp17 Dx
      have y20 := (y18).trans x19
      have br_20 := br_18.keep x19
      have bd_20 := bd_18.keep x19
      simp only [A3,A6,Bb,Bc,Cr,Bn,B4,C9,Cu,B5,Cs,Ct,Da,Ci,Be,Bo,Bp,A2,A9,Ba,A5,De,B6,Bm,Bh,A8,A4,Bi,Bg,Bf,Bq,Br,B9,Ca,Bv,C0,Cz,C1,A0,A1,C2,Dd,ofOpt,ofOptS,Bw,Dh,Di,Cj,Cl,Bk,Bl,C4,Bj,Df,A7,Bd,Cm,Cn,Co,Cp,Cq,B3,B1,Nat.reduceLT,Nat.reduceAdd,Nat.reduceEqDiff,Aa,Ab,reduceIte,Ac,Ad,Ae,Af,Ag,Ah,Ai,Aj,Ak,Al,Am,Ao,Ap,Aq,Ar,Au,Av,Aw,Option.toList,Ay,Az,Tryz.f157,Cg,Ch,B7,B8,Do,Dp,fp0,Cb,C3,C8,C7,C6,C5,Dm,Dj,Dk,Cw,Ce,B0,Bt,Cf,Bz,By,Cc,Cd,Bs,Cv,Dq,Db,Dg,Cx,Cy,hf1,hf2,hf3,hf4,G4,Fy,hda,q5,q19]
      refine WC.mono (Ge c19 hp19 hi17 hts 1 0 [[59]] (by decide) (by decide)) ?_
      cases hX21 : Ec ts [[59]] j3 with
      | out => exact absurd hX21 (Fq _ _ _)
      | bad a e =>
        rintro _ ⟨S21, rfl, x21⟩
        simp only [A3,A6,Bb,Bc,Cr,Bn,B4,C9,Cu,B5,Cs,Ct,Da,Ci,Be,Bo,Bp,A2,A9,Ba,A5,De,B6,Bm,Bh,A8,A4,Bi,Bg,Bf,Bq,Br,B9,Ca,Bv,C0,Cz,C1,A0,A1,C2,Dd,ofOpt,ofOptS,Bw,Dh,Di,Cj,Cl,Bk,Bl,C4,Bj,Df,A7,Bd,Cm,Cn,Co,Cp,Cq,B3,B1,Nat.reduceLT,Nat.reduceAdd,Nat.reduceEqDiff,Aa,Ab,reduceIte,Ac,Ad,Ae,Af,Ag,Ah,Ai,Aj,Ak,Al,Am,Ao,Ap,Aq,Ar,Au,Av,Aw,Option.toList,Ay,Az,Tryz.f157,Cg,Ch,B7,B8,Do,Dp,fp0,Cb,C3,C8,C7,C6,C5,Dm,Dj,Dk,Cw,Ce,B0,Bt,Cf,Bz,By,Cc,Cd,Bs,Cv,Dq,Db,Dg,Cx,Cy,hf1,hf2,hf3,hf4,G4,Fy,hda,q5,q19]
        exact ⟨_, rfl, y20.trans x21⟩
      | ok a21 j21 =>
        rintro _ ⟨_, S21, rfl, rfl, x21, c21, hi21⟩
        have hp21 : p < S21.next := Nat.lt_of_lt_of_le hp19 x21.1
        have y22 := (y20).trans x21
        have br_22 := br_20.keep x21
        have bd_22 := bd_20.keep x21
        have bt_22 := bt.keep x21
        rw [Ds]
        have l23 := ldG eE T8 bd_22.get rfl
        obtain ⟨g24, h24, gx, gc⟩ := Q1 eE T8 (S0 := S) c21 br_22 rfl (Nat.le_refl _) y22 (xs := (Gp a3)) rfl
        simp only [A3,A6,Bb,Bc,Cr,Bn,B4,C9,Cu,B5,Cs,Ct,Da,Ci,Be,Bo,Bp,A2,A9,Ba,A5,De,B6,Bm,Bh,A8,A4,Bi,Bg,Bf,Bq,Br,B9,Ca,Bv,C0,Cz,C1,A0,A1,C2,Dd,ofOpt,ofOptS,Bw,Dh,Di,Cj,Cl,Bk,Bl,C4,Bj,Df,A7,Bd,Cm,Cn,Co,Cp,Cq,B3,B1,Nat.reduceLT,Nat.reduceAdd,Nat.reduceEqDiff,Aa,Ab,reduceIte,Ac,Ad,Ae,Af,Ag,Ah,Ai,Aj,Ak,Al,Am,Ao,Ap,Aq,Ar,Au,Av,Aw,Option.toList,Ay,Az,Tryz.f157,Cg,Ch,B7,B8,Do,Dp,fp0,Cb,C3,C8,C7,C6,C5,Dm,Dj,Dk,Cw,Ce,B0,Bt,Cf,Bz,By,Cc,Cd,Bs,Cv,Dq,Db,Dg,Cx,Cy,hf1,hf2,hf3,hf4,G4,Fy,hda,q5,q19,l23,g24,h24]
        exact ⟨_, _, rfl, rfl, gx, gc, hi21⟩
omit hts
end
def H8 {α : Type} (ts : List Tk) (kid : Nat → PR α) : Nat → List α → Nat → PR (List α)
  | 0, _, _ => .out
  | n + 1, l, i => if (tk ts i).text ∈ [[44]] then (kid (i + 1)).bind fun y j => H8 ts kid n (l ++ [y]) j else (Ec ts [[41]] i).bind fun _ j => .ok l j
def On {α : Type} (ts : List Tk) (kid : Nat → PR α) (n i : Nat) : PR (List α) := (Ec ts [[40]] i).bind fun _ j => if (tk ts j).text ∈ [[41]] then .ok [] (j + 1) else (kid j).bind fun x m => H8 ts kid n [x] m
/-- A row so far: of size sz each. -/
def O5 (sz lo : Nat) (S : St) (tok : Nat) (es : List AV) : Prop := tok = 1 ∨ (2 ≤ tok ∧ lo ≤ tok ∧ tok < S.next ∧ S.mem.get tok = some (.tip (es.length * sz)))
theorem O5.keep {sz lo p : Nat} {S S' : St} {tok : Nat} {es : List AV} (h : O5 sz lo S tok es) (k : El p S S') (hp : p < lo) : O5 sz lo S' tok es := by
  rcases h with h | ⟨h1, h2, h3, h4⟩
  · exact .inl h
  · exact .inr ⟨h1, h2, Nat.lt_of_lt_of_le h3 k.1, by rw [k.2 tok h3 (by omega)]; exact h4⟩
/-- A row of things, or none. -/
def J1 {α : Type} (sz : Nat) (A : α → AV) (v : AV) (l : List α) : Prop := (v = .nils ∧ l = []) ∨ ∃ tok off, v = .sl tok off sz (l.map A)
theorem i54 : (Tryz.prog.info? 54).map (fun i => (i.zero, i.size, i.bytes)) = some (some (.agg #[.string ⟨#[]⟩, .int .i64 0, .bool false, .bool false, .string ⟨#[]⟩, .bool false]), 6, 56) := by kernel_rfl
theorem el46 : Gu Tryz.prog 46 = some (none, 54) := by kernel_rfl
theorem un46 : Tryz.prog.underlying 46 = some (.slice 54) := by kernel_rfl
theorem app46 (S : St) (a b : AV) : G6 E1 S 46 46 a b = Fp Tryz.prog S 46 46 a b := rfl
theorem zr54 : Jy Tryz.prog 54 = some (.agg Zj) := by kernel_rfl
theorem Tp (xs : List AV) (hx : xs.length = 6) : D3 Tryz.prog 46 1 [(0, .agg xs)] = some (.sl 1 0 6 [.agg xs]) := by
  simp [D3, el46, T8, zr54, B7, B8, hx]
theorem lI {lo : Nat} {S : St} {tok : Nat} {es : List AV} (h : O5 6 lo S tok es) (hn : 2 ≤ S.next) (hlo : lo ≤ S.next) (xs : List AV) (hx : xs.length = 6) (hl : es.length ≤ 2000000) :
    ∃ S', G6 E1 S 46 46 (.sl tok 0 6 es) (.sl 1 0 6 [.agg xs]) = some (.sl S.next 0 6 (es ++ [.agg xs]), S') ∧ O5 6 lo S' S.next (es ++ [.agg xs]) ∧ S.next ≤ S'.next ∧ ∀ id, id < lo → S'.mem.get id = S.mem.get id := by
  obtain ⟨i, hi, hz0, hz1, hz2⟩ := Gg i54
  have hb1 : (es.length + 1) * 56 ≤ 140737488355328 := by omega
  have hb2 : es.length + 1 ≤ 9223372036854775807 := by omega
  rw [app46]
  rcases h with rfl | ⟨h1, h2, h3, h5⟩
  · refine ⟨S.grown 1 ((es ++ [AV.agg xs]).length * 6), ?_, .inr ⟨hn, hlo, Nat.lt_succ_self _, ?_⟩, Nat.le_succ _, fun id hid => ?_⟩
    · simp [Fp, el46, hi, hz0, hz1, hz2, Kh, un46, Value.cells, Lj, hb1, hb2]
    · show (S.mem.set S.next _).get S.next = _
      rw [T.get_set, if_pos rfl]
    · show (S.mem.set S.next _).get id = _
      rw [T.get_set, if_neg (by omega)]
  · obtain ⟨k, rfl⟩ : ∃ k, tok = k + 2 := ⟨tok - 2, by omega⟩
    refine ⟨S.grown (k + 2) ((es ++ [AV.agg xs]).length * 6), ?_, .inr ⟨hn, hlo, Nat.lt_succ_self _, ?_⟩, Nat.le_succ _, fun id hid => ?_⟩
    · simp [Fp, el46, hi, hz0, hz1, hz2, Kh, un46, Value.cells, Lj, h5, hb1, hb2]
    · show ((S.mem.set (k + 2) none).set S.next _).get S.next = _
      rw [T.get_set, if_pos rfl]
    · show ((S.mem.set (k + 2) none).set S.next _).get id = _
      rw [T.get_set, if_neg (by omega), T.get_set, if_neg (by omega)]
noncomputable def H7 : Code := match Tryz.f156.body with
  | some (.seq _ (.seq _ (.seq (.block _ (.loop c)) _))) => c
  | _ => .skip
def eH (p k : Nat) (ts : List Tk) (S0 : St) (x : PR (List PD)) (r : O) : Prop :=
  (∃ t' S' tok l i', r = .out (.exit 0) ⟨t', []⟩ S' ∧ t'.get 0 = some (.ptr p 0) ∧ t'.get 5 = some (.sl tok 0 6 (l.map Ga)) ∧ El p S0 S' ∧ Cur S' p k ts i' ∧ i' < ts.length ∧ p < S'.next ∧ x = (Ec ts [[41]] i').bind fun _ j => .ok l j) ∨
  (∃ t' S' a e, r = .out (.pan (Q3 a e)) ⟨t', []⟩ S' ∧ El p S0 S' ∧ x = .bad a e)
section
variable {p k : Nat} {ts : List Tk} (hts : TokOk ts)
include hts
set_option maxHeartbeats 16000000 in
theorem Qk (h2p : 2 ≤ p) (m : Nat) (kid : Nat → PR PD) (hkn : ∀ i, kid i ≠ .out) (hF : ∃ fn, E1.F m = some fn) (hkid : bW p k ts m Vc kid) (S0 : St) (hp0 : p < S0.next) : ∀ (n : Nat) (l : List PD) (i : Nat) (t : T AV) (S : St) (tok : Nat), H8 ts kid n l i ≠ .out → n + l.length ≤ 2000000 →
    t.get 0 = some (.ptr p 0) → t.get 1 = some (F9 m p) → t.get 5 = some (.sl tok 0 6 (l.map Ga)) → Cur S p k ts i → p < S.next → i < ts.length → O5 6 S0.next S tok (l.map Ga) → El p S0 S →
    WX E1 32 (.loop H7) ⟨t, []⟩ S (eH p k ts S0 (H8 ts kid n l i))
  | 0, l, i, t, S, tok, ho, hnl, h0, h1, h5, h, hp, hi, hr, hx => absurd rfl ho
  | n + 1, l, i, t, S, tok, ho, hnl, h0, h1, h5, h, hp, hi, hr, hx => by
    refine Fc (Es ?_)
    obtain ⟨fn1, hf1⟩ := Hn
    obtain ⟨fn2, hf2⟩ := hF
    unfold F9 at h1
    have eP : H8 ts kid (n + 1) l i = if (tk ts i).text ∈ [[44]] then (kid (i + 1)).bind fun y j => H8 ts kid n (l ++ [y]) j else (Ec ts [[41]] i).bind fun _ j => .ok l j := rfl
    rw [eP] at ho ⊢
    clear eP
    by_cases hm : (tk ts i).text ∈ [[44]]
    · rw [if_pos hm] at ho ⊢
      simp only [A3,A6,Bb,Bc,Cr,Bn,B4,C9,Cu,B5,Cs,Ct,Da,Ci,Be,Bo,Bp,A2,A9,Ba,A5,De,B6,Bm,Bh,A8,A4,Bi,Bg,Bf,Bq,Br,B9,Ca,Bv,C0,Cz,C1,A0,A1,C2,Dd,ofOpt,ofOptS,Bw,Dh,Di,Cj,Cl,Bk,Bl,C4,Bj,Df,A7,Bd,Cm,Cn,Co,Cp,Cq,B3,B1,Nat.reduceLT,Nat.reduceAdd,Nat.reduceEqDiff,Aa,Ab,reduceIte,Ac,Ad,Ae,Af,Ag,Ah,Ai,Aj,Ak,Al,Am,Ao,Ap,Aq,Ar,Au,Av,Aw,Option.toList,Ay,Az,Tryz.f156,Cg,Ch,B7,B8,Do,Dp,fp0,Cb,C3,C8,C7,C6,C5,Dm,Dj,Dk,Cw,Ce,B0,Bt,Cf,Bz,By,Cc,Cd,Bs,Cv,Dq,Db,Dg,Cx,Cy,hf1,hf2,h0,h1,h5,H7]
      refine WC.mono (Hw h hp hi hts 1 0 [[44]] (by decide) (by decide) hm) ?_
      rintro _ ⟨S1, rfl, x1, c1, hi1, hp1⟩
      have y2 := (hx).trans x1
      obtain ⟨S3, q3, x3, c3, bt, hp3⟩ := Eu c1 hp1 (tk ts i)
      have y4 := (y2).trans x3
      simp only [A3,A6,Bb,Bc,Cr,Bn,B4,C9,Cu,B5,Cs,Ct,Da,Ci,Be,Bo,Bp,A2,A9,Ba,A5,De,B6,Bm,Bh,A8,A4,Bi,Bg,Bf,Bq,Br,B9,Ca,Bv,C0,Cz,C1,A0,A1,C2,Dd,ofOpt,ofOptS,Bw,Dh,Di,Cj,Cl,Bk,Bl,C4,Bj,Df,A7,Bd,Cm,Cn,Co,Cp,Cq,B3,B1,Nat.reduceLT,Nat.reduceAdd,Nat.reduceEqDiff,Aa,Ab,reduceIte,Ac,Ad,Ae,Af,Ag,Ah,Ai,Aj,Ak,Al,Am,Ao,Ap,Aq,Ar,Au,Av,Aw,Option.toList,Ay,Az,Tryz.f156,Cg,Ch,B7,B8,Do,Dp,fp0,Cb,C3,C8,C7,C6,C5,Dm,Dj,Dk,Cw,Ce,B0,Bt,Cf,Bz,By,Cc,Cd,Bs,Cv,Dq,Db,Dg,Cx,Cy,hf1,hf2,h0,h1,h5,H7,q3]
      refine WC.mono (hkid _ _ c3 hp3 hi1) ?_
      cases hX5 : kid (i + 1) with
      | out => exact absurd hX5 (hkn _)
      | bad a e =>
        rintro _ ⟨S5, rfl, x5⟩
        simp only [A3,A6,Bb,Bc,Cr,Bn,B4,C9,Cu,B5,Cs,Ct,Da,Ci,Be,Bo,Bp,A2,A9,Ba,A5,De,B6,Bm,Bh,A8,A4,Bi,Bg,Bf,Bq,Br,B9,Ca,Bv,C0,Cz,C1,A0,A1,C2,Dd,ofOpt,ofOptS,Bw,Dh,Di,Cj,Cl,Bk,Bl,C4,Bj,Df,A7,Bd,Cm,Cn,Co,Cp,Cq,B3,B1,Nat.reduceLT,Nat.reduceAdd,Nat.reduceEqDiff,Aa,Ab,reduceIte,Ac,Ad,Ae,Af,Ag,Ah,Ai,Aj,Ak,Al,Am,Ao,Ap,Aq,Ar,Au,Av,Aw,Option.toList,Ay,Az,Tryz.f156,Cg,Ch,B7,B8,Do,Dp,fp0,Cb,C3,C8,C7,C6,C5,Dm,Dj,Dk,Cw,Ce,B0,Bt,Cf,Bz,By,Cc,Cd,Bs,Cv,Dq,Db,Dg,Cx,Cy,hf1,hf2,h0,h1,h5,H7,q3]
        exact .inr ⟨_, _, _, _, rfl, y4.trans x5, rfl⟩
      | ok a5 j5 =>
        rw [hX5] at ho; rw [Ds] at ho ⊢
        rintro _ ⟨_, S5, rfl, rfl, x5, c5, hi5⟩
        have hp5 : p < S5.next := Nat.lt_of_lt_of_le hp3 x5.1
        have y6 := (y4).trans x5
        have bt_6 := bt.keep x5
        have hda : Ga a5 = .agg (Gp a5) := rfl
        have l7 := Tp (Gp a5) rfl
        have hr2 : O5 6 S0.next S5 tok (l.map Ga) := hr.keep (((x1).trans x3).trans x5 : El p S S5) hp0
        have hle := y6.1
        obtain ⟨S8, a8, r8, n8, k8⟩ := lI hr2 (by omega) hle (Gp a5) rfl (by rw [List.length_map]; omega)
        have z8 : El p S0 S8 := ⟨Nat.le_trans hle n8, fun id hid hn => (k8 id hid).trans (y6.2 id hid hn)⟩
        have cc8 : Cur S8 p k ts j5 := (k8 p hp0).trans c5
        have em : l.map Ga ++ [AV.agg (Gp a5)] = (l ++ [a5]).map Ga := by rw [List.map_append]; rfl
        rw [em] at a8 r8
        simp only [A3,A6,Bb,Bc,Cr,Bn,B4,C9,Cu,B5,Cs,Ct,Da,Ci,Be,Bo,Bp,A2,A9,Ba,A5,De,B6,Bm,Bh,A8,A4,Bi,Bg,Bf,Bq,Br,B9,Ca,Bv,C0,Cz,C1,A0,A1,C2,Dd,ofOpt,ofOptS,Bw,Dh,Di,Cj,Cl,Bk,Bl,C4,Bj,Df,A7,Bd,Cm,Cn,Co,Cp,Cq,B3,B1,Nat.reduceLT,Nat.reduceAdd,Nat.reduceEqDiff,Aa,Ab,reduceIte,Ac,Ad,Ae,Af,Ag,Ah,Ai,Aj,Ak,Al,Am,Ao,Ap,Aq,Ar,Au,Av,Aw,Option.toList,Ay,Az,Tryz.f156,Cg,Ch,B7,B8,Do,Dp,fp0,Cb,C3,C8,C7,C6,C5,Dm,Dj,Dk,Cw,Ce,B0,Bt,Cf,Bz,By,Cc,Cd,Bs,Cv,Dq,Db,Dg,Cx,Cy,hf1,hf2,h0,h1,h5,H7,q3,hda,l7,a8]
        exact Qk h2p m kid hkn ⟨_, hf2⟩ hkid S0 hp0 n _ _ _ _ _ ho (by rw [List.length_append]; simp; omega) (by simp [T.get_set, h0]) (by simp [T.get_set, h1, F9]) (by simp [T.get_set]) cc8 (by omega) hi5 r8 z8
    · rw [if_neg hm] at ho ⊢
      simp only [A3,A6,Bb,Bc,Cr,Bn,B4,C9,Cu,B5,Cs,Ct,Da,Ci,Be,Bo,Bp,A2,A9,Ba,A5,De,B6,Bm,Bh,A8,A4,Bi,Bg,Bf,Bq,Br,B9,Ca,Bv,C0,Cz,C1,A0,A1,C2,Dd,ofOpt,ofOptS,Bw,Dh,Di,Cj,Cl,Bk,Bl,C4,Bj,Df,A7,Bd,Cm,Cn,Co,Cp,Cq,B3,B1,Nat.reduceLT,Nat.reduceAdd,Nat.reduceEqDiff,Aa,Ab,reduceIte,Ac,Ad,Ae,Af,Ag,Ah,Ai,Aj,Ak,Al,Am,Ao,Ap,Aq,Ar,Au,Av,Aw,Option.toList,Ay,Az,Tryz.f156,Cg,Ch,B7,B8,Do,Dp,fp0,Cb,C3,C8,C7,C6,C5,Dm,Dj,Dk,Cw,Ce,B0,Bt,Cf,Bz,By,Cc,Cd,Bs,Cv,Dq,Db,Dg,Cx,Cy,hf1,hf2,h0,h1,h5,H7]
      refine WC.mono (Iv h hp hi hts 1 0 [[44]] (by decide) hm) ?_
      rintro _ ⟨S9, rfl, x9, c9, hi9, hp9⟩
      have y10 := (hx).trans x9
      obtain ⟨S11, q11, x11, c11, bt, hp11⟩ := Eu c9 hp9 Dx
      have y12 := (y10).trans x11
      simp only [A3,A6,Bb,Bc,Cr,Bn,B4,C9,Cu,B5,Cs,Ct,Da,Ci,Be,Bo,Bp,A2,A9,Ba,A5,De,B6,Bm,Bh,A8,A4,Bi,Bg,Bf,Bq,Br,B9,Ca,Bv,C0,Cz,C1,A0,A1,C2,Dd,ofOpt,ofOptS,Bw,Dh,Di,Cj,Cl,Bk,Bl,C4,Bj,Df,A7,Bd,Cm,Cn,Co,Cp,Cq,B3,B1,Nat.reduceLT,Nat.reduceAdd,Nat.reduceEqDiff,Aa,Ab,reduceIte,Ac,Ad,Ae,Af,Ag,Ah,Ai,Aj,Ak,Al,Am,Ao,Ap,Aq,Ar,Au,Av,Aw,Option.toList,Ay,Az,Tryz.f156,Cg,Ch,B7,B8,Do,Dp,fp0,Cb,C3,C8,C7,C6,C5,Dm,Dj,Dk,Cw,Ce,B0,Bt,Cf,Bz,By,Cc,Cd,Bs,Cv,Dq,Db,Dg,Cx,Cy,hf1,hf2,h0,h1,h5,H7,q11]
      exact .inl ⟨_, _, tok, l, i, rfl, by simp [T.get_set, h0], by simp [T.get_set, h5], y12, c11, hi9, hp11, rfl⟩
set_option maxHeartbeats 16000000 in
theorem iB (h2p : 2 ≤ p) (m : Nat) (kid : Nat → PR PD) (hkn : ∀ i, kid i ≠ .out) (hF : ∃ fn, E1.F m = some fn) (hkid : bW p k ts m Vc kid) (n : Nat) (hn : n ≤ 1000000) (S : St) (i : Nat) (h : Cur S p k ts i) (hp : p < S.next) (hi : i < ts.length) (ho : ((kid i).bind fun x j => H8 ts kid n [x] j) ≠ .out) : WC E1 156 [.ptr p 0, F9 m p] S (Ku p k ts S (J1 6 Ga) ((kid i).bind fun x j => H8 ts kid n [x] j)) := by
  refine Ek Tryz.f156 (by kernel_rfl) (by kernel_rfl) (by kernel_rfl) (show (_ : Nat) ≤ _ from by show (_ : Nat) ≤ _; simp [Tryz.f156]) ?_
  obtain ⟨fn2, hf2⟩ := hF
  obtain ⟨fn3, hf3⟩ := J6
  simp only [A3,A6,Bb,Bc,Cr,Bn,B4,C9,Cu,B5,Cs,Ct,Da,Ci,Be,Bo,Bp,A2,A9,Ba,A5,De,B6,Bm,Bh,A8,A4,Bi,Bg,Bf,Bq,Br,B9,Ca,Bv,C0,Cz,C1,A0,A1,C2,Dd,ofOpt,ofOptS,Bw,Dh,Di,Cj,Cl,Bk,Bl,C4,Bj,Df,A7,Bd,Cm,Cn,Co,Cp,Cq,B3,B1,Nat.reduceLT,Nat.reduceAdd,Nat.reduceEqDiff,Aa,Ab,reduceIte,Ac,Ad,Ae,Af,Ag,Ah,Ai,Aj,Ak,Al,Am,Ao,Ap,Aq,Ar,Au,Av,Aw,Option.toList,Ay,Az,Tryz.f156,Cg,Ch,B7,B8,Do,Dp,fp0,Cb,C3,C8,C7,C6,C5,Dm,Dj,Dk,Cw,Ce,B0,Bt,Cf,Bz,By,Cc,Cd,Bs,Cv,Dq,Db,Dg,Cx,Cy,hf2,hf3,F9]
  refine WC.mono (hkid _ _ h hp hi) ?_
  cases hX1 : kid i with
  | out => exact absurd hX1 (hkn _)
  | bad a e =>
    rintro _ ⟨S1, rfl, x1⟩
    simp only [A3,A6,Bb,Bc,Cr,Bn,B4,C9,Cu,B5,Cs,Ct,Da,Ci,Be,Bo,Bp,A2,A9,Ba,A5,De,B6,Bm,Bh,A8,A4,Bi,Bg,Bf,Bq,Br,B9,Ca,Bv,C0,Cz,C1,A0,A1,C2,Dd,ofOpt,ofOptS,Bw,Dh,Di,Cj,Cl,Bk,Bl,C4,Bj,Df,A7,Bd,Cm,Cn,Co,Cp,Cq,B3,B1,Nat.reduceLT,Nat.reduceAdd,Nat.reduceEqDiff,Aa,Ab,reduceIte,Ac,Ad,Ae,Af,Ag,Ah,Ai,Aj,Ak,Al,Am,Ao,Ap,Aq,Ar,Au,Av,Aw,Option.toList,Ay,Az,Tryz.f156,Cg,Ch,B7,B8,Do,Dp,fp0,Cb,C3,C8,C7,C6,C5,Dm,Dj,Dk,Cw,Ce,B0,Bt,Cf,Bz,By,Cc,Cd,Bs,Cv,Dq,Db,Dg,Cx,Cy,hf2,hf3,F9]
    exact ⟨_, rfl, x1⟩
  | ok a1 j1 =>
    rw [hX1] at ho; rw [Ds] at ho ⊢
    rintro _ ⟨_, S1, rfl, rfl, x1, c1, hi1⟩
    have hp1 : p < S1.next := Nat.lt_of_lt_of_le hp x1.1
    have y2 := x1
    have hda : Ga a1 = .agg (Gp a1) := rfl
    have l3 := Tp (Gp a1) rfl
    simp only [A3,A6,Bb,Bc,Cr,Bn,B4,C9,Cu,B5,Cs,Ct,Da,Ci,Be,Bo,Bp,A2,A9,Ba,A5,De,B6,Bm,Bh,A8,A4,Bi,Bg,Bf,Bq,Br,B9,Ca,Bv,C0,Cz,C1,A0,A1,C2,Dd,ofOpt,ofOptS,Bw,Dh,Di,Cj,Cl,Bk,Bl,C4,Bj,Df,A7,Bd,Cm,Cn,Co,Cp,Cq,B3,B1,Nat.reduceLT,Nat.reduceAdd,Nat.reduceEqDiff,Aa,Ab,reduceIte,Ac,Ad,Ae,Af,Ag,Ah,Ai,Aj,Ak,Al,Am,Ao,Ap,Aq,Ar,Au,Av,Aw,Option.toList,Ay,Az,Tryz.f156,Cg,Ch,B7,B8,Do,Dp,fp0,Cb,C3,C8,C7,C6,C5,Dm,Dj,Dk,Cw,Ce,B0,Bt,Cf,Bz,By,Cc,Cd,Bs,Cv,Dq,Db,Dg,Cx,Cy,hf2,hf3,F9,hda,l3]
    refine WX.mono (Qk hts h2p m kid hkn ⟨_, hf2⟩ hkid S hp n [a1] j1 _ _ 1 ho (by simp; omega) (by simp [T.get_set]) (by simp [T.get_set, F9]) (by simp [T.get_set, hda]) c1 hp1 hi1 (.inl rfl) y2) ?_
    rintro _ (⟨t9, S9, tok9, l9, i9, rfl, g0, g5, x9, c9, hi9, hp9, e9⟩ | ⟨t9, S9, a9, e9, rfl, x9, q9⟩)
    · rw [e9]
      simp only [A3,A6,Bb,Bc,Cr,Bn,B4,C9,Cu,B5,Cs,Ct,Da,Ci,Be,Bo,Bp,A2,A9,Ba,A5,De,B6,Bm,Bh,A8,A4,Bi,Bg,Bf,Bq,Br,B9,Ca,Bv,C0,Cz,C1,A0,A1,C2,Dd,ofOpt,ofOptS,Bw,Dh,Di,Cj,Cl,Bk,Bl,C4,Bj,Df,A7,Bd,Cm,Cn,Co,Cp,Cq,B3,B1,Nat.reduceLT,Nat.reduceAdd,Nat.reduceEqDiff,Aa,Ab,reduceIte,Ac,Ad,Ae,Af,Ag,Ah,Ai,Aj,Ak,Al,Am,Ao,Ap,Aq,Ar,Au,Av,Aw,Option.toList,Ay,Az,Tryz.f156,Cg,Ch,B7,B8,Do,Dp,fp0,Cb,C3,C8,C7,C6,C5,Dm,Dj,Dk,Cw,Ce,B0,Bt,Cf,Bz,By,Cc,Cd,Bs,Cv,Dq,Db,Dg,Cx,Cy,hf2,hf3,F9,g0,g5]
      refine WC.mono (Ge c9 hp9 hi9 hts 1 0 [[41]] (by decide) (by decide)) ?_
      cases hX4 : Ec ts [[41]] i9 with
      | out => exact absurd hX4 (Fq _ _ _)
      | bad a e =>
        rintro _ ⟨S4, rfl, x4⟩
        simp only [A3,A6,Bb,Bc,Cr,Bn,B4,C9,Cu,B5,Cs,Ct,Da,Ci,Be,Bo,Bp,A2,A9,Ba,A5,De,B6,Bm,Bh,A8,A4,Bi,Bg,Bf,Bq,Br,B9,Ca,Bv,C0,Cz,C1,A0,A1,C2,Dd,ofOpt,ofOptS,Bw,Dh,Di,Cj,Cl,Bk,Bl,C4,Bj,Df,A7,Bd,Cm,Cn,Co,Cp,Cq,B3,B1,Nat.reduceLT,Nat.reduceAdd,Nat.reduceEqDiff,Aa,Ab,reduceIte,Ac,Ad,Ae,Af,Ag,Ah,Ai,Aj,Ak,Al,Am,Ao,Ap,Aq,Ar,Au,Av,Aw,Option.toList,Ay,Az,Tryz.f156,Cg,Ch,B7,B8,Do,Dp,fp0,Cb,C3,C8,C7,C6,C5,Dm,Dj,Dk,Cw,Ce,B0,Bt,Cf,Bz,By,Cc,Cd,Bs,Cv,Dq,Db,Dg,Cx,Cy,hf2,hf3,F9,g0,g5]
        exact ⟨_, rfl, x9.trans x4⟩
      | ok a4 j4 =>
        rintro _ ⟨_, S4, rfl, rfl, x4, c4, hi4⟩
        have hp4 : p < S4.next := Nat.lt_of_lt_of_le hp9 x4.1
        have y5 := (x9).trans x4
        simp only [A3,A6,Bb,Bc,Cr,Bn,B4,C9,Cu,B5,Cs,Ct,Da,Ci,Be,Bo,Bp,A2,A9,Ba,A5,De,B6,Bm,Bh,A8,A4,Bi,Bg,Bf,Bq,Br,B9,Ca,Bv,C0,Cz,C1,A0,A1,C2,Dd,ofOpt,ofOptS,Bw,Dh,Di,Cj,Cl,Bk,Bl,C4,Bj,Df,A7,Bd,Cm,Cn,Co,Cp,Cq,B3,B1,Nat.reduceLT,Nat.reduceAdd,Nat.reduceEqDiff,Aa,Ab,reduceIte,Ac,Ad,Ae,Af,Ag,Ah,Ai,Aj,Ak,Al,Am,Ao,Ap,Aq,Ar,Au,Av,Aw,Option.toList,Ay,Az,Tryz.f156,Cg,Ch,B7,B8,Do,Dp,fp0,Cb,C3,C8,C7,C6,C5,Dm,Dj,Dk,Cw,Ce,B0,Bt,Cf,Bz,By,Cc,Cd,Bs,Cv,Dq,Db,Dg,Cx,Cy,hf2,hf3,F9,g0,g5]
        exact ⟨_, _, rfl, .inr ⟨_, _, rfl⟩, y5, c4, hi4⟩
    · rw [q9]
      simp only [A3,A6,Bb,Bc,Cr,Bn,B4,C9,Cu,B5,Cs,Ct,Da,Ci,Be,Bo,Bp,A2,A9,Ba,A5,De,B6,Bm,Bh,A8,A4,Bi,Bg,Bf,Bq,Br,B9,Ca,Bv,C0,Cz,C1,A0,A1,C2,Dd,ofOpt,ofOptS,Bw,Dh,Di,Cj,Cl,Bk,Bl,C4,Bj,Df,A7,Bd,Cm,Cn,Co,Cp,Cq,B3,B1,Nat.reduceLT,Nat.reduceAdd,Nat.reduceEqDiff,Aa,Ab,reduceIte,Ac,Ad,Ae,Af,Ag,Ah,Ai,Aj,Ak,Al,Am,Ao,Ap,Aq,Ar,Au,Av,Aw,Option.toList,Ay,Az,Tryz.f156,Cg,Ch,B7,B8,Do,Dp,fp0,Cb,C3,C8,C7,C6,C5,Dm,Dj,Dk,Cw,Ce,B0,Bt,Cf,Bz,By,Cc,Cd,Bs,Cv,Dq,Db,Dg,Cx,Cy,hf2,hf3,F9]
      exact ⟨_, rfl, x9⟩
end
theorem i59 : (Tryz.prog.info? 59).map (fun i => (i.zero, i.size, i.bytes)) = some (some (.agg #[.string ⟨#[]⟩, .int .i64 0]), 2, 24) := by kernel_rfl
theorem jQ : Gu Tryz.prog 55 = some (none, 59) := by kernel_rfl
theorem kM : Tryz.prog.underlying 55 = some (.slice 59) := by kernel_rfl
theorem app55 (S : St) (a b : AV) : G6 E1 S 55 55 a b = Fp Tryz.prog S 55 55 a b := rfl
theorem zr59 : Jy Tryz.prog 59 = some (.agg bY) := by kernel_rfl
theorem To (xs : List AV) (hx : xs.length = 2) : D3 Tryz.prog 55 1 [(0, .agg xs)] = some (.sl 1 0 2 [.agg xs]) := by
  simp [D3, jQ, Zr, zr59, B7, B8, hx]
theorem push55 {lo : Nat} {S : St} {tok : Nat} {es : List AV} (h : O5 2 lo S tok es) (hn : 2 ≤ S.next) (hlo : lo ≤ S.next) (xs : List AV) (hx : xs.length = 2) (hl : es.length ≤ 2000000) :
    ∃ S', G6 E1 S 55 55 (.sl tok 0 2 es) (.sl 1 0 2 [.agg xs]) = some (.sl S.next 0 2 (es ++ [.agg xs]), S') ∧ O5 2 lo S' S.next (es ++ [.agg xs]) ∧ S.next ≤ S'.next ∧ ∀ id, id < lo → S'.mem.get id = S.mem.get id := by
  obtain ⟨i, hi, hz0, hz1, hz2⟩ := Gg i59
  have hb1 : (es.length + 1) * 24 ≤ 140737488355328 := by omega
  have hb2 : es.length + 1 ≤ 9223372036854775807 := by omega
  rw [app55]
  rcases h with rfl | ⟨h1, h2, h3, h5⟩
  · refine ⟨S.grown 1 ((es ++ [AV.agg xs]).length * 2), ?_, .inr ⟨hn, hlo, Nat.lt_succ_self _, ?_⟩, Nat.le_succ _, fun id hid => ?_⟩
    · simp [Fp, jQ, hi, hz0, hz1, hz2, Kh, kM, Value.cells, Lj, hb1, hb2]
    · show (S.mem.set S.next _).get S.next = _
      rw [T.get_set, if_pos rfl]
    · show (S.mem.set S.next _).get id = _
      rw [T.get_set, if_neg (by omega)]
  · obtain ⟨k, rfl⟩ : ∃ k, tok = k + 2 := ⟨tok - 2, by omega⟩
    refine ⟨S.grown (k + 2) ((es ++ [AV.agg xs]).length * 2), ?_, .inr ⟨hn, hlo, Nat.lt_succ_self _, ?_⟩, Nat.le_succ _, fun id hid => ?_⟩
    · simp [Fp, jQ, hi, hz0, hz1, hz2, Kh, kM, Value.cells, Lj, h5, hb1, hb2]
    · show ((S.mem.set (k + 2) none).set S.next _).get S.next = _
      rw [T.get_set, if_pos rfl]
    · show ((S.mem.set (k + 2) none).set S.next _).get id = _
      rw [T.get_set, if_neg (by omega), T.get_set, if_neg (by omega)]
noncomputable def H6 : Code := match Tryz.f181.body with
  | some (.seq _ (.seq _ (.seq (.block _ (.loop c)) _))) => c
  | _ => .skip
def eG (p k : Nat) (ts : List Tk) (S0 : St) (x : PR (List (List UInt8 × Nat))) (r : O) : Prop :=
  (∃ t' S' tok l i', r = .out (.exit 0) ⟨t', []⟩ S' ∧ t'.get 0 = some (.ptr p 0) ∧ t'.get 5 = some (.sl tok 0 2 (l.map Gc)) ∧ El p S0 S' ∧ Cur S' p k ts i' ∧ i' < ts.length ∧ p < S'.next ∧ x = (Ec ts [[41]] i').bind fun _ j => .ok l j) ∨
  (∃ t' S' a e, r = .out (.pan (Q3 a e)) ⟨t', []⟩ S' ∧ El p S0 S' ∧ x = .bad a e)
section
variable {p k : Nat} {ts : List Tk} (hts : TokOk ts)
include hts
set_option maxHeartbeats 16000000 in
theorem Qj (h2p : 2 ≤ p) (m : Nat) (kid : Nat → PR (List UInt8 × Nat)) (hkn : ∀ i, kid i ≠ .out) (hF : ∃ fn, E1.F m = some fn) (hkid : bW p k ts m dF kid) (S0 : St) (hp0 : p < S0.next) : ∀ (n : Nat) (l : List (List UInt8 × Nat)) (i : Nat) (t : T AV) (S : St) (tok : Nat), H8 ts kid n l i ≠ .out → n + l.length ≤ 2000000 →
    t.get 0 = some (.ptr p 0) → t.get 1 = some (F9 m p) → t.get 5 = some (.sl tok 0 2 (l.map Gc)) → Cur S p k ts i → p < S.next → i < ts.length → O5 2 S0.next S tok (l.map Gc) → El p S0 S →
    WX E1 32 (.loop H6) ⟨t, []⟩ S (eG p k ts S0 (H8 ts kid n l i))
  | 0, l, i, t, S, tok, ho, hnl, h0, h1, h5, h, hp, hi, hr, hx => absurd rfl ho
  | n + 1, l, i, t, S, tok, ho, hnl, h0, h1, h5, h, hp, hi, hr, hx => by
    refine Fc (Es ?_)
    obtain ⟨fn1, hf1⟩ := Hn
    obtain ⟨fn2, hf2⟩ := hF
    unfold F9 at h1
    have eP : H8 ts kid (n + 1) l i = if (tk ts i).text ∈ [[44]] then (kid (i + 1)).bind fun y j => H8 ts kid n (l ++ [y]) j else (Ec ts [[41]] i).bind fun _ j => .ok l j := rfl
    rw [eP] at ho ⊢
    clear eP
    by_cases hm : (tk ts i).text ∈ [[44]]
    · rw [if_pos hm] at ho ⊢
      simp only [A3,A6,Bb,Bc,Cr,Bn,B4,C9,Cu,B5,Cs,Ct,Da,Ci,Be,Bo,Bp,A2,A9,Ba,A5,De,B6,Bm,Bh,A8,A4,Bi,Bg,Bf,Bq,Br,B9,Ca,Bv,C0,Cz,C1,A0,A1,C2,Dd,ofOpt,ofOptS,Bw,Dh,Di,Cj,Cl,Bk,Bl,C4,Bj,Df,A7,Bd,Cm,Cn,Co,Cp,Cq,B3,B1,Nat.reduceLT,Nat.reduceAdd,Nat.reduceEqDiff,Aa,Ab,reduceIte,Ac,Ad,Ae,Af,Ag,Ah,Ai,Aj,Ak,Al,Am,Ao,Ap,Aq,Ar,Au,Av,Aw,Option.toList,Ay,Az,Tryz.f181,Cg,Ch,B7,B8,Do,Dp,fp0,Cb,C3,C8,C7,C6,C5,Dm,Dj,Dk,Cw,Ce,B0,Bt,Cf,Bz,By,Cc,Cd,Bs,Cv,Dq,Db,Dg,Cx,Cy,hf1,hf2,h0,h1,h5,H6]
      refine WC.mono (Hw h hp hi hts 1 0 [[44]] (by decide) (by decide) hm) ?_
      rintro _ ⟨S1, rfl, x1, c1, hi1, hp1⟩
      have y2 := (hx).trans x1
      obtain ⟨S3, q3, x3, c3, bt, hp3⟩ := Eu c1 hp1 (tk ts i)
      have y4 := (y2).trans x3
      simp only [A3,A6,Bb,Bc,Cr,Bn,B4,C9,Cu,B5,Cs,Ct,Da,Ci,Be,Bo,Bp,A2,A9,Ba,A5,De,B6,Bm,Bh,A8,A4,Bi,Bg,Bf,Bq,Br,B9,Ca,Bv,C0,Cz,C1,A0,A1,C2,Dd,ofOpt,ofOptS,Bw,Dh,Di,Cj,Cl,Bk,Bl,C4,Bj,Df,A7,Bd,Cm,Cn,Co,Cp,Cq,B3,B1,Nat.reduceLT,Nat.reduceAdd,Nat.reduceEqDiff,Aa,Ab,reduceIte,Ac,Ad,Ae,Af,Ag,Ah,Ai,Aj,Ak,Al,Am,Ao,Ap,Aq,Ar,Au,Av,Aw,Option.toList,Ay,Az,Tryz.f181,Cg,Ch,B7,B8,Do,Dp,fp0,Cb,C3,C8,C7,C6,C5,Dm,Dj,Dk,Cw,Ce,B0,Bt,Cf,Bz,By,Cc,Cd,Bs,Cv,Dq,Db,Dg,Cx,Cy,hf1,hf2,h0,h1,h5,H6,q3]
      refine WC.mono (hkid _ _ c3 hp3 hi1) ?_
      cases hX5 : kid (i + 1) with
      | out => exact absurd hX5 (hkn _)
      | bad a e =>
        rintro _ ⟨S5, rfl, x5⟩
        simp only [A3,A6,Bb,Bc,Cr,Bn,B4,C9,Cu,B5,Cs,Ct,Da,Ci,Be,Bo,Bp,A2,A9,Ba,A5,De,B6,Bm,Bh,A8,A4,Bi,Bg,Bf,Bq,Br,B9,Ca,Bv,C0,Cz,C1,A0,A1,C2,Dd,ofOpt,ofOptS,Bw,Dh,Di,Cj,Cl,Bk,Bl,C4,Bj,Df,A7,Bd,Cm,Cn,Co,Cp,Cq,B3,B1,Nat.reduceLT,Nat.reduceAdd,Nat.reduceEqDiff,Aa,Ab,reduceIte,Ac,Ad,Ae,Af,Ag,Ah,Ai,Aj,Ak,Al,Am,Ao,Ap,Aq,Ar,Au,Av,Aw,Option.toList,Ay,Az,Tryz.f181,Cg,Ch,B7,B8,Do,Dp,fp0,Cb,C3,C8,C7,C6,C5,Dm,Dj,Dk,Cw,Ce,B0,Bt,Cf,Bz,By,Cc,Cd,Bs,Cv,Dq,Db,Dg,Cx,Cy,hf1,hf2,h0,h1,h5,H6,q3]
        exact .inr ⟨_, _, _, _, rfl, y4.trans x5, rfl⟩
      | ok a5 j5 =>
        rw [hX5] at ho; rw [Ds] at ho ⊢
        rintro _ ⟨_, S5, rfl, rfl, x5, c5, hi5⟩
        have hp5 : p < S5.next := Nat.lt_of_lt_of_le hp3 x5.1
        have y6 := (y4).trans x5
        have bt_6 := bt.keep x5
        have hda : Gc a5 = .agg (Hq a5) := rfl
        have l7 := To (Hq a5) rfl
        have hr2 : O5 2 S0.next S5 tok (l.map Gc) := hr.keep (((x1).trans x3).trans x5 : El p S S5) hp0
        have hle := y6.1
        obtain ⟨S8, a8, r8, n8, k8⟩ := push55 hr2 (by omega) hle (Hq a5) rfl (by rw [List.length_map]; omega)
        have z8 : El p S0 S8 := ⟨Nat.le_trans hle n8, fun id hid hn => (k8 id hid).trans (y6.2 id hid hn)⟩
        have cc8 : Cur S8 p k ts j5 := (k8 p hp0).trans c5
        have em : l.map Gc ++ [AV.agg (Hq a5)] = (l ++ [a5]).map Gc := by rw [List.map_append]; rfl
        rw [em] at a8 r8
        simp only [A3,A6,Bb,Bc,Cr,Bn,B4,C9,Cu,B5,Cs,Ct,Da,Ci,Be,Bo,Bp,A2,A9,Ba,A5,De,B6,Bm,Bh,A8,A4,Bi,Bg,Bf,Bq,Br,B9,Ca,Bv,C0,Cz,C1,A0,A1,C2,Dd,ofOpt,ofOptS,Bw,Dh,Di,Cj,Cl,Bk,Bl,C4,Bj,Df,A7,Bd,Cm,Cn,Co,Cp,Cq,B3,B1,Nat.reduceLT,Nat.reduceAdd,Nat.reduceEqDiff,Aa,Ab,reduceIte,Ac,Ad,Ae,Af,Ag,Ah,Ai,Aj,Ak,Al,Am,Ao,Ap,Aq,Ar,Au,Av,Aw,Option.toList,Ay,Az,Tryz.f181,Cg,Ch,B7,B8,Do,Dp,fp0,Cb,C3,C8,C7,C6,C5,Dm,Dj,Dk,Cw,Ce,B0,Bt,Cf,Bz,By,Cc,Cd,Bs,Cv,Dq,Db,Dg,Cx,Cy,hf1,hf2,h0,h1,h5,H6,q3,hda,l7,a8]
        exact Qj h2p m kid hkn ⟨_, hf2⟩ hkid S0 hp0 n _ _ _ _ _ ho (by rw [List.length_append]; simp; omega) (by simp [T.get_set, h0]) (by simp [T.get_set, h1, F9]) (by simp [T.get_set]) cc8 (by omega) hi5 r8 z8
    · rw [if_neg hm] at ho ⊢
      simp only [A3,A6,Bb,Bc,Cr,Bn,B4,C9,Cu,B5,Cs,Ct,Da,Ci,Be,Bo,Bp,A2,A9,Ba,A5,De,B6,Bm,Bh,A8,A4,Bi,Bg,Bf,Bq,Br,B9,Ca,Bv,C0,Cz,C1,A0,A1,C2,Dd,ofOpt,ofOptS,Bw,Dh,Di,Cj,Cl,Bk,Bl,C4,Bj,Df,A7,Bd,Cm,Cn,Co,Cp,Cq,B3,B1,Nat.reduceLT,Nat.reduceAdd,Nat.reduceEqDiff,Aa,Ab,reduceIte,Ac,Ad,Ae,Af,Ag,Ah,Ai,Aj,Ak,Al,Am,Ao,Ap,Aq,Ar,Au,Av,Aw,Option.toList,Ay,Az,Tryz.f181,Cg,Ch,B7,B8,Do,Dp,fp0,Cb,C3,C8,C7,C6,C5,Dm,Dj,Dk,Cw,Ce,B0,Bt,Cf,Bz,By,Cc,Cd,Bs,Cv,Dq,Db,Dg,Cx,Cy,hf1,hf2,h0,h1,h5,H6]
      refine WC.mono (Iv h hp hi hts 1 0 [[44]] (by decide) hm) ?_
      rintro _ ⟨S9, rfl, x9, c9, hi9, hp9⟩
      have y10 := (hx).trans x9
      obtain ⟨S11, q11, x11, c11, bt, hp11⟩ := Eu c9 hp9 Dx
      have y12 := (y10).trans x11
      simp only [A3,A6,Bb,Bc,Cr,Bn,B4,C9,Cu,B5,Cs,Ct,Da,Ci,Be,Bo,Bp,A2,A9,Ba,A5,De,B6,Bm,Bh,A8,A4,Bi,Bg,Bf,Bq,Br,B9,Ca,Bv,C0,Cz,C1,A0,A1,C2,Dd,ofOpt,ofOptS,Bw,Dh,Di,Cj,Cl,Bk,Bl,C4,Bj,Df,A7,Bd,Cm,Cn,Co,Cp,Cq,B3,B1,Nat.reduceLT,Nat.reduceAdd,Nat.reduceEqDiff,Aa,Ab,reduceIte,Ac,Ad,Ae,Af,Ag,Ah,Ai,Aj,Ak,Al,Am,Ao,Ap,Aq,Ar,Au,Av,Aw,Option.toList,Ay,Az,Tryz.f181,Cg,Ch,B7,B8,Do,Dp,fp0,Cb,C3,C8,C7,C6,C5,Dm,Dj,Dk,Cw,Ce,B0,Bt,Cf,Bz,By,Cc,Cd,Bs,Cv,Dq,Db,Dg,Cx,Cy,hf1,hf2,h0,h1,h5,H6,q11]
      exact .inl ⟨_, _, tok, l, i, rfl, by simp [T.get_set, h0], by simp [T.get_set, h5], y12, c11, hi9, hp11, rfl⟩
set_option maxHeartbeats 16000000 in
theorem iA (h2p : 2 ≤ p) (m : Nat) (kid : Nat → PR (List UInt8 × Nat)) (hkn : ∀ i, kid i ≠ .out) (hF : ∃ fn, E1.F m = some fn) (hkid : bW p k ts m dF kid) (n : Nat) (hn : n ≤ 1000000) (S : St) (i : Nat) (h : Cur S p k ts i) (hp : p < S.next) (hi : i < ts.length) (ho : ((kid i).bind fun x j => H8 ts kid n [x] j) ≠ .out) : WC E1 181 [.ptr p 0, F9 m p] S (Ku p k ts S (J1 2 Gc) ((kid i).bind fun x j => H8 ts kid n [x] j)) := by
  refine Ek Tryz.f181 (by kernel_rfl) (by kernel_rfl) (by kernel_rfl) (show (_ : Nat) ≤ _ from by show (_ : Nat) ≤ _; simp [Tryz.f181]) ?_
  obtain ⟨fn2, hf2⟩ := hF
  obtain ⟨fn3, hf3⟩ := J6
  simp only [A3,A6,Bb,Bc,Cr,Bn,B4,C9,Cu,B5,Cs,Ct,Da,Ci,Be,Bo,Bp,A2,A9,Ba,A5,De,B6,Bm,Bh,A8,A4,Bi,Bg,Bf,Bq,Br,B9,Ca,Bv,C0,Cz,C1,A0,A1,C2,Dd,ofOpt,ofOptS,Bw,Dh,Di,Cj,Cl,Bk,Bl,C4,Bj,Df,A7,Bd,Cm,Cn,Co,Cp,Cq,B3,B1,Nat.reduceLT,Nat.reduceAdd,Nat.reduceEqDiff,Aa,Ab,reduceIte,Ac,Ad,Ae,Af,Ag,Ah,Ai,Aj,Ak,Al,Am,Ao,Ap,Aq,Ar,Au,Av,Aw,Option.toList,Ay,Az,Tryz.f181,Cg,Ch,B7,B8,Do,Dp,fp0,Cb,C3,C8,C7,C6,C5,Dm,Dj,Dk,Cw,Ce,B0,Bt,Cf,Bz,By,Cc,Cd,Bs,Cv,Dq,Db,Dg,Cx,Cy,hf2,hf3,F9]
  refine WC.mono (hkid _ _ h hp hi) ?_
  cases hX1 : kid i with
  | out => exact absurd hX1 (hkn _)
  | bad a e =>
    rintro _ ⟨S1, rfl, x1⟩
    simp only [A3,A6,Bb,Bc,Cr,Bn,B4,C9,Cu,B5,Cs,Ct,Da,Ci,Be,Bo,Bp,A2,A9,Ba,A5,De,B6,Bm,Bh,A8,A4,Bi,Bg,Bf,Bq,Br,B9,Ca,Bv,C0,Cz,C1,A0,A1,C2,Dd,ofOpt,ofOptS,Bw,Dh,Di,Cj,Cl,Bk,Bl,C4,Bj,Df,A7,Bd,Cm,Cn,Co,Cp,Cq,B3,B1,Nat.reduceLT,Nat.reduceAdd,Nat.reduceEqDiff,Aa,Ab,reduceIte,Ac,Ad,Ae,Af,Ag,Ah,Ai,Aj,Ak,Al,Am,Ao,Ap,Aq,Ar,Au,Av,Aw,Option.toList,Ay,Az,Tryz.f181,Cg,Ch,B7,B8,Do,Dp,fp0,Cb,C3,C8,C7,C6,C5,Dm,Dj,Dk,Cw,Ce,B0,Bt,Cf,Bz,By,Cc,Cd,Bs,Cv,Dq,Db,Dg,Cx,Cy,hf2,hf3,F9]
    exact ⟨_, rfl, x1⟩
  | ok a1 j1 =>
    rw [hX1] at ho; rw [Ds] at ho ⊢
    rintro _ ⟨_, S1, rfl, rfl, x1, c1, hi1⟩
    have hp1 : p < S1.next := Nat.lt_of_lt_of_le hp x1.1
    have y2 := x1
    have hda : Gc a1 = .agg (Hq a1) := rfl
    have l3 := To (Hq a1) rfl
    simp only [A3,A6,Bb,Bc,Cr,Bn,B4,C9,Cu,B5,Cs,Ct,Da,Ci,Be,Bo,Bp,A2,A9,Ba,A5,De,B6,Bm,Bh,A8,A4,Bi,Bg,Bf,Bq,Br,B9,Ca,Bv,C0,Cz,C1,A0,A1,C2,Dd,ofOpt,ofOptS,Bw,Dh,Di,Cj,Cl,Bk,Bl,C4,Bj,Df,A7,Bd,Cm,Cn,Co,Cp,Cq,B3,B1,Nat.reduceLT,Nat.reduceAdd,Nat.reduceEqDiff,Aa,Ab,reduceIte,Ac,Ad,Ae,Af,Ag,Ah,Ai,Aj,Ak,Al,Am,Ao,Ap,Aq,Ar,Au,Av,Aw,Option.toList,Ay,Az,Tryz.f181,Cg,Ch,B7,B8,Do,Dp,fp0,Cb,C3,C8,C7,C6,C5,Dm,Dj,Dk,Cw,Ce,B0,Bt,Cf,Bz,By,Cc,Cd,Bs,Cv,Dq,Db,Dg,Cx,Cy,hf2,hf3,F9,hda,l3]
    refine WX.mono (Qj hts h2p m kid hkn ⟨_, hf2⟩ hkid S hp n [a1] j1 _ _ 1 ho (by simp; omega) (by simp [T.get_set]) (by simp [T.get_set, F9]) (by simp [T.get_set, hda]) c1 hp1 hi1 (.inl rfl) y2) ?_
    rintro _ (⟨t9, S9, tok9, l9, i9, rfl, g0, g5, x9, c9, hi9, hp9, e9⟩ | ⟨t9, S9, a9, e9, rfl, x9, q9⟩)
    · rw [e9]
      simp only [A3,A6,Bb,Bc,Cr,Bn,B4,C9,Cu,B5,Cs,Ct,Da,Ci,Be,Bo,Bp,A2,A9,Ba,A5,De,B6,Bm,Bh,A8,A4,Bi,Bg,Bf,Bq,Br,B9,Ca,Bv,C0,Cz,C1,A0,A1,C2,Dd,ofOpt,ofOptS,Bw,Dh,Di,Cj,Cl,Bk,Bl,C4,Bj,Df,A7,Bd,Cm,Cn,Co,Cp,Cq,B3,B1,Nat.reduceLT,Nat.reduceAdd,Nat.reduceEqDiff,Aa,Ab,reduceIte,Ac,Ad,Ae,Af,Ag,Ah,Ai,Aj,Ak,Al,Am,Ao,Ap,Aq,Ar,Au,Av,Aw,Option.toList,Ay,Az,Tryz.f181,Cg,Ch,B7,B8,Do,Dp,fp0,Cb,C3,C8,C7,C6,C5,Dm,Dj,Dk,Cw,Ce,B0,Bt,Cf,Bz,By,Cc,Cd,Bs,Cv,Dq,Db,Dg,Cx,Cy,hf2,hf3,F9,g0,g5]
      refine WC.mono (Ge c9 hp9 hi9 hts 1 0 [[41]] (by decide) (by decide)) ?_
      cases hX4 : Ec ts [[41]] i9 with
      | out => exact absurd hX4 (Fq _ _ _)
      | bad a e =>
        rintro _ ⟨S4, rfl, x4⟩
        simp only [A3,A6,Bb,Bc,Cr,Bn,B4,C9,Cu,B5,Cs,Ct,Da,Ci,Be,Bo,Bp,A2,A9,Ba,A5,De,B6,Bm,Bh,A8,A4,Bi,Bg,Bf,Bq,Br,B9,Ca,Bv,C0,Cz,C1,A0,A1,C2,Dd,ofOpt,ofOptS,Bw,Dh,Di,Cj,Cl,Bk,Bl,C4,Bj,Df,A7,Bd,Cm,Cn,Co,Cp,Cq,B3,B1,Nat.reduceLT,Nat.reduceAdd,Nat.reduceEqDiff,Aa,Ab,reduceIte,Ac,Ad,Ae,Af,Ag,Ah,Ai,Aj,Ak,Al,Am,Ao,Ap,Aq,Ar,Au,Av,Aw,Option.toList,Ay,Az,Tryz.f181,Cg,Ch,B7,B8,Do,Dp,fp0,Cb,C3,C8,C7,C6,C5,Dm,Dj,Dk,Cw,Ce,B0,Bt,Cf,Bz,By,Cc,Cd,Bs,Cv,Dq,Db,Dg,Cx,Cy,hf2,hf3,F9,g0,g5]
        exact ⟨_, rfl, x9.trans x4⟩
      | ok a4 j4 =>
        rintro _ ⟨_, S4, rfl, rfl, x4, c4, hi4⟩
        have hp4 : p < S4.next := Nat.lt_of_lt_of_le hp9 x4.1
        have y5 := (x9).trans x4
        simp only [A3,A6,Bb,Bc,Cr,Bn,B4,C9,Cu,B5,Cs,Ct,Da,Ci,Be,Bo,Bp,A2,A9,Ba,A5,De,B6,Bm,Bh,A8,A4,Bi,Bg,Bf,Bq,Br,B9,Ca,Bv,C0,Cz,C1,A0,A1,C2,Dd,ofOpt,ofOptS,Bw,Dh,Di,Cj,Cl,Bk,Bl,C4,Bj,Df,A7,Bd,Cm,Cn,Co,Cp,Cq,B3,B1,Nat.reduceLT,Nat.reduceAdd,Nat.reduceEqDiff,Aa,Ab,reduceIte,Ac,Ad,Ae,Af,Ag,Ah,Ai,Aj,Ak,Al,Am,Ao,Ap,Aq,Ar,Au,Av,Aw,Option.toList,Ay,Az,Tryz.f181,Cg,Ch,B7,B8,Do,Dp,fp0,Cb,C3,C8,C7,C6,C5,Dm,Dj,Dk,Cw,Ce,B0,Bt,Cf,Bz,By,Cc,Cd,Bs,Cv,Dq,Db,Dg,Cx,Cy,hf2,hf3,F9,g0,g5]
        exact ⟨_, _, rfl, .inr ⟨_, _, rfl⟩, y5, c4, hi4⟩
    · rw [q9]
      simp only [A3,A6,Bb,Bc,Cr,Bn,B4,C9,Cu,B5,Cs,Ct,Da,Ci,Be,Bo,Bp,A2,A9,Ba,A5,De,B6,Bm,Bh,A8,A4,Bi,Bg,Bf,Bq,Br,B9,Ca,Bv,C0,Cz,C1,A0,A1,C2,Dd,ofOpt,ofOptS,Bw,Dh,Di,Cj,Cl,Bk,Bl,C4,Bj,Df,A7,Bd,Cm,Cn,Co,Cp,Cq,B3,B1,Nat.reduceLT,Nat.reduceAdd,Nat.reduceEqDiff,Aa,Ab,reduceIte,Ac,Ad,Ae,Af,Ag,Ah,Ai,Aj,Ak,Al,Am,Ao,Ap,Aq,Ar,Au,Av,Aw,Option.toList,Ay,Az,Tryz.f181,Cg,Ch,B7,B8,Do,Dp,fp0,Cb,C3,C8,C7,C6,C5,Dm,Dj,Dk,Cw,Ce,B0,Bt,Cf,Bz,By,Cc,Cd,Bs,Cv,Dq,Db,Dg,Cx,Cy,hf2,hf3,F9]
      exact ⟨_, rfl, x9⟩
end
section
end
end Go.Ax
