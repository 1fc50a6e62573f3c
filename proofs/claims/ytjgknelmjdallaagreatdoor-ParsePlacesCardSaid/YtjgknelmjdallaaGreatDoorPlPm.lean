/-
  What the parser Lo: nodes.
-/
import Derived.Test.YtjgknelmjdallaaGreatDoorPlPl
noncomputable section
namespace Go.Ax
open Go.RowKit Go.Proofs
set_option linter.unusedVariables false
set_option linter.unusedSimpArgs false
set_option maxRecDepth 100000

theorem mZ : ∃ fn, E1.F 90 = some fn := Option.isSome_iff_exists.1 (by kernel_rfl)
def Zn (ts : List Tk) (n j : Nat) : PR (List PD) := if (tk ts j).text ∈ [[118, 97, 114]] then (G3 ts (j + 1)).bind fun x m => N2 ts n [x] m else .ok [] j
def Om (ts : List Tk) (n i : Nat) : PR PN := (Ec ts [[110, 111, 100, 101]] i).bind fun _ j => (F4 ts 1 j).bind fun t j => (On ts (Ks ts) n j).bind fun ins j => (Ec ts [[114, 101, 116, 117, 114, 110, 115]] j).bind fun _ j => (On ts (Ks ts) n j).bind fun outs j => (Zn ts n j).bind fun vars j => (Ec ts [[108, 101, 116]] j).bind fun _ j => (Y9 ts n n [] j).bind fun qs j => (Ec ts [[116, 101, 108]] j).bind fun _ j => .ok ⟨t.text, t.pos, ins, outs, vars, qs⟩ j
def Yw (v : AV) (nd : PN) : Prop := ∃ a b c d es, v = .agg (Gm nd.name nd.pos a b c d) ∧ J1 6 Ga a nd.ins ∧ J1 6 Ga b nd.outs ∧ J1 6 Ga c nd.vars ∧ ((d = .nils ∧ es = []) ∨ ∃ tok, d = .sl tok 0 8 es) ∧ EqRows es nd.eqs
theorem b49 (s : List UInt8) (a : Nat) : Gk Tryz.prog 49 [(0, .v (.string ⟨⟨s⟩⟩)), (1, .v (.int .i64 (a : Int)))] = some (.agg (Gm s a .nils .nils .nils .nils)) := by kernel_rfl
theorem Hg (b : Nat) : Dt Tryz.prog 49 (.ptr b 0) 2 = some (.ptr b 2) := by kernel_rfl
theorem Hf (b : Nat) : Dt Tryz.prog 49 (.ptr b 0) 3 = some (.ptr b 3) := by kernel_rfl
theorem He (b : Nat) : Dt Tryz.prog 49 (.ptr b 0) 4 = some (.ptr b 4) := by kernel_rfl
theorem s46 : Fj Tryz.prog 46 = some 1 := by kernel_rfl
theorem Lg {v : AV} {l : List PD} (h : J1 6 Ga v l) : v.noTup = true ∧ v.cells = [v] := by
  rcases h with ⟨rfl, _⟩ | ⟨tok, off, rfl⟩ <;> exact ⟨rfl, rfl⟩
section
variable {S : St} {id : Nat} {nm : List UInt8} {pos : Nat} {a b c d v : AV} {l : List PD} (h : S.mem.get id = some (.box (Gm nm pos a b c d))) (hv : J1 6 Ga v l)
include h hv
theorem st49_2 : Du Tryz.prog S 46 (.ptr id 2) v = some (S.put id (Gm nm pos v b c d)) := by
  simp [Du, h, s46, (Lg hv).1, (Lg hv).2, St.put, Gm]
theorem st49_3 : Du Tryz.prog S 46 (.ptr id 3) v = some (S.put id (Gm nm pos a v c d)) := by
  simp [Du, h, s46, (Lg hv).1, (Lg hv).2, St.put, Gm]
theorem st49_4 : Du Tryz.prog S 46 (.ptr id 4) v = some (S.put id (Gm nm pos a b v d)) := by
  simp [Du, h, s46, (Lg hv).1, (Lg hv).2, St.put, Gm]
end
section
variable {p k : Nat} {ts : List Tk} (hts : TokOk ts)
include hts
set_option maxHeartbeats 64000000 in
theorem lW (h2p : 2 ≤ p) (n : Nat) (hn : n ≤ 1000000) (S : St) (i : Nat) (h : Cur S p k ts i) (hp : p < S.next) (hi : i < ts.length) (ho : Om ts n i ≠ .out) : WC E1 90 [.ptr p 0] S (Ku p k ts S Yw (Om ts n i)) := by
  have eP : Om ts n i = (Ec ts [[110, 111, 100, 101]] i).bind fun _ j => (F4 ts 1 j).bind fun t j => (On ts (Ks ts) n j).bind fun ins j => (Ec ts [[114, 101, 116, 117, 114, 110, 115]] j).bind fun _ j => (On ts (Ks ts) n j).bind fun outs j => (Zn ts n j).bind fun vars j => (Ec ts [[108, 101, 116]] j).bind fun _ j => (Y9 ts n n [] j).bind fun qs j => (Ec ts [[116, 101, 108]] j).bind fun _ j => .ok ⟨t.text, t.pos, ins, outs, vars, qs⟩ j := rfl
  rw [eP] at ho ⊢
  clear eP
  refine Ek Tryz.f90 (by kernel_rfl) (by kernel_rfl) (by kernel_rfl) (show (_ : Nat) ≤ _ from by show (_ : Nat) ≤ _; simp [Tryz.f90]) ?_
  obtain ⟨fn1, hf1⟩ := J6
  obtain ⟨fn2, hf2⟩ := Lc
  obtain ⟨fn3, hf3⟩ := fnOk125
  obtain ⟨fn4, hf4⟩ := Hn
  obtain ⟨fn5, hf5⟩ := fnOk127
  obtain ⟨fn6, hf6⟩ := Oq
  obtain ⟨x1, c1, br, hp1⟩ := aG V7 h hp
  have y2 := x1
  simp only [A3,A6,Bb,Bc,Cr,Bn,B4,C9,Cu,B5,Cs,Ct,Da,Ci,Be,Bo,Bp,A2,A9,Ba,A5,De,B6,Bm,Bh,A8,A4,Bi,Bg,Bf,Bq,Br,B9,Ca,Bv,C0,Cz,C1,A0,A1,C2,Dd,ofOpt,ofOptS,Bw,Dh,Di,Cj,Cl,Bk,Bl,C4,Bj,Df,A7,Bd,Cm,Cn,Co,Cp,Cq,B3,B1,Nat.reduceLT,Nat.reduceAdd,Nat.reduceEqDiff,Aa,Ab,reduceIte,Ac,Ad,Ae,Af,Ag,Ah,Ai,Aj,Ak,Al,Am,Ao,Ap,Aq,Ar,Au,Av,Aw,Option.toList,Ay,Az,Tryz.f90,Cg,Ch,B7,B8,Do,Dp,fp0,Cb,C3,C8,C7,C6,C5,Dm,Dj,Dk,Cw,Ce,B0,Bt,Cf,Bz,By,Cc,Cd,Bs,Cv,Dq,Db,Dg,Cx,Cy,hf1,hf2,hf3,hf4,hf5,hf6,I2,Hg,Hf,He]
  refine WC.mono (Ge c1 hp1 hi hts 1 0 [[110, 111, 100, 101]] (by decide) (by decide)) ?_
  cases hX3 : Ec ts [[110, 111, 100, 101]] i with
  | out => exact absurd hX3 (Fq _ _ _)
  | bad a e =>
    rintro _ ⟨S3, rfl, x3⟩
    simp only [A3,A6,Bb,Bc,Cr,Bn,B4,C9,Cu,B5,Cs,Ct,Da,Ci,Be,Bo,Bp,A2,A9,Ba,A5,De,B6,Bm,Bh,A8,A4,Bi,Bg,Bf,Bq,Br,B9,Ca,Bv,C0,Cz,C1,A0,A1,C2,Dd,ofOpt,ofOptS,Bw,Dh,Di,Cj,Cl,Bk,Bl,C4,Bj,Df,A7,Bd,Cm,Cn,Co,Cp,Cq,B3,B1,Nat.reduceLT,Nat.reduceAdd,Nat.reduceEqDiff,Aa,Ab,reduceIte,Ac,Ad,Ae,Af,Ag,Ah,Ai,Aj,Ak,Al,Am,Ao,Ap,Aq,Ar,Au,Av,Aw,Option.toList,Ay,Az,Tryz.f90,Cg,Ch,B7,B8,Do,Dp,fp0,Cb,C3,C8,C7,C6,C5,Dm,Dj,Dk,Cw,Ce,B0,Bt,Cf,Bz,By,Cc,Cd,Bs,Cv,Dq,Db,Dg,Cx,Cy,hf1,hf2,hf3,hf4,hf5,hf6,I2,Hg,Hf,He]
    exact ⟨_, rfl, y2.trans x3⟩
  | ok a3 j3 =>
    rw [hX3] at ho; rw [Ds] at ho ⊢
    rintro _ ⟨_, S3, rfl, rfl, x3, c3, hi3⟩
    have hp3 : p < S3.next := Nat.lt_of_lt_of_le hp1 x3.1
    have y4 := (y2).trans x3
    have br_4 := br.keep x3
    simp only [A3,A6,Bb,Bc,Cr,Bn,B4,C9,Cu,B5,Cs,Ct,Da,Ci,Be,Bo,Bp,A2,A9,Ba,A5,De,B6,Bm,Bh,A8,A4,Bi,Bg,Bf,Bq,Br,B9,Ca,Bv,C0,Cz,C1,A0,A1,C2,Dd,ofOpt,ofOptS,Bw,Dh,Di,Cj,Cl,Bk,Bl,C4,Bj,Df,A7,Bd,Cm,Cn,Co,Cp,Cq,B3,B1,Nat.reduceLT,Nat.reduceAdd,Nat.reduceEqDiff,Aa,Ab,reduceIte,Ac,Ad,Ae,Af,Ag,Ah,Ai,Aj,Ak,Al,Am,Ao,Ap,Aq,Ar,Au,Av,Aw,Option.toList,Ay,Az,Tryz.f90,Cg,Ch,B7,B8,Do,Dp,fp0,Cb,C3,C8,C7,C6,C5,Dm,Dj,Dk,Cw,Ce,B0,Bt,Cf,Bz,By,Cc,Cd,Bs,Cv,Dq,Db,Dg,Cx,Cy,hf1,hf2,hf3,hf4,hf5,hf6,I2,Hg,Hf,He]
    refine WC.mono (Nn c3 hp3 hi3 hts 1 (by decide)) ?_
    cases hX5 : F4 ts 1 j3 with
    | out => exact absurd hX5 (Ip _ _ _)
    | bad a e =>
      rintro _ ⟨S5, rfl, x5⟩
      simp only [A3,A6,Bb,Bc,Cr,Bn,B4,C9,Cu,B5,Cs,Ct,Da,Ci,Be,Bo,Bp,A2,A9,Ba,A5,De,B6,Bm,Bh,A8,A4,Bi,Bg,Bf,Bq,Br,B9,Ca,Bv,C0,Cz,C1,A0,A1,C2,Dd,ofOpt,ofOptS,Bw,Dh,Di,Cj,Cl,Bk,Bl,C4,Bj,Df,A7,Bd,Cm,Cn,Co,Cp,Cq,B3,B1,Nat.reduceLT,Nat.reduceAdd,Nat.reduceEqDiff,Aa,Ab,reduceIte,Ac,Ad,Ae,Af,Ag,Ah,Ai,Aj,Ak,Al,Am,Ao,Ap,Aq,Ar,Au,Av,Aw,Option.toList,Ay,Az,Tryz.f90,Cg,Ch,B7,B8,Do,Dp,fp0,Cb,C3,C8,C7,C6,C5,Dm,Dj,Dk,Cw,Ce,B0,Bt,Cf,Bz,By,Cc,Cd,Bs,Cv,Dq,Db,Dg,Cx,Cy,hf1,hf2,hf3,hf4,hf5,hf6,I2,Hg,Hf,He]
      exact ⟨_, rfl, y4.trans x5⟩
    | ok a5 j5 =>
      rw [hX5] at ho; rw [Ds] at ho ⊢
      rintro _ ⟨_, S5, rfl, rfl, x5, c5, hi5⟩
      have hp5 : p < S5.next := Nat.lt_of_lt_of_le hp3 x5.1
      have y6 := (y4).trans x5
      have br_6 := br_4.keep x5
      obtain ⟨S7, q7, x7, c7, bt, hp7⟩ := Eu c5 hp5 a5
      have y8 := (y6).trans x7
      have br_8 := br_6.keep x7
      have lp := bt.pos
      have lt := bt.text
      obtain ⟨S9, q9, x9, c9, bd, hp9⟩ := gN V8 V7 rfl c7 hp7 (xs := Gm a5.text a5.pos .nils .nils .nils .nils) rfl
      have y10 := (y8).trans x9
      have br_10 := br_8.keep x9
      have bt_10 := bt.keep x9
      have hne : S7.next ≠ S.next := by have := br_8.lt; omega
      have ne11 := Fi ho
      simp only [A3,A6,Bb,Bc,Cr,Bn,B4,C9,Cu,B5,Cs,Ct,Da,Ci,Be,Bo,Bp,A2,A9,Ba,A5,De,B6,Bm,Bh,A8,A4,Bi,Bg,Bf,Bq,Br,B9,Ca,Bv,C0,Cz,C1,A0,A1,C2,Dd,ofOpt,ofOptS,Bw,Dh,Di,Cj,Cl,Bk,Bl,C4,Bj,Df,A7,Bd,Cm,Cn,Co,Cp,Cq,B3,B1,Nat.reduceLT,Nat.reduceAdd,Nat.reduceEqDiff,Aa,Ab,reduceIte,Ac,Ad,Ae,Af,Ag,Ah,Ai,Aj,Ak,Al,Am,Ao,Ap,Aq,Ar,Au,Av,Aw,Option.toList,Ay,Az,Tryz.f90,Cg,Ch,B7,B8,Do,Dp,fp0,Cb,C3,C8,C7,C6,C5,Dm,Dj,Dk,Cw,Ce,B0,Bt,Cf,Bz,By,Cc,Cd,Bs,Cv,Dq,Db,Dg,Cx,Cy,hf1,hf2,hf3,hf4,hf5,hf6,I2,Hg,Hf,He,q7,fd1,fa2,lp,lt,b49,q9,F9]
      refine WC.mono (Sw hts h2p 126 (Ks ts) (Rd ts) Y3 (dY hts) n hn _ _ c9 hp9 hi5 ne11) ?_
      cases hX12 : On ts (Ks ts) n j5 with
      | out => exact absurd hX12 ne11
      | bad a e =>
        rintro _ ⟨S12, rfl, x12⟩
        simp only [A3,A6,Bb,Bc,Cr,Bn,B4,C9,Cu,B5,Cs,Ct,Da,Ci,Be,Bo,Bp,A2,A9,Ba,A5,De,B6,Bm,Bh,A8,A4,Bi,Bg,Bf,Bq,Br,B9,Ca,Bv,C0,Cz,C1,A0,A1,C2,Dd,ofOpt,ofOptS,Bw,Dh,Di,Cj,Cl,Bk,Bl,C4,Bj,Df,A7,Bd,Cm,Cn,Co,Cp,Cq,B3,B1,Nat.reduceLT,Nat.reduceAdd,Nat.reduceEqDiff,Aa,Ab,reduceIte,Ac,Ad,Ae,Af,Ag,Ah,Ai,Aj,Ak,Al,Am,Ao,Ap,Aq,Ar,Au,Av,Aw,Option.toList,Ay,Az,Tryz.f90,Cg,Ch,B7,B8,Do,Dp,fp0,Cb,C3,C8,C7,C6,C5,Dm,Dj,Dk,Cw,Ce,B0,Bt,Cf,Bz,By,Cc,Cd,Bs,Cv,Dq,Db,Dg,Cx,Cy,hf1,hf2,hf3,hf4,hf5,hf6,I2,Hg,Hf,He,q7,fd1,fa2,lp,lt,b49,q9]
        exact ⟨_, rfl, y10.trans x12⟩
      | ok l12 j12 =>
        rw [hX12] at ho; rw [Ds] at ho ⊢
        rintro _ ⟨va, S12, rfl, hva, x12, c12, hi12⟩
        have hp12 : p < S12.next := Nat.lt_of_lt_of_le hp9 x12.1
        have y13 := (y10).trans x12
        have br_13 := br_10.keep x12
        have bd_13 := bd.keep x12
        have st701 := st49_2 bd_13.get hva
        obtain ⟨px701, pc701, pb701, pr701⟩ := Pe (ys := Gm a5.text a5.pos va .nils .nils .nils) y13 y8.1 bd_13 c12 br_13 hne
        simp only [A3,A6,Bb,Bc,Cr,Bn,B4,C9,Cu,B5,Cs,Ct,Da,Ci,Be,Bo,Bp,A2,A9,Ba,A5,De,B6,Bm,Bh,A8,A4,Bi,Bg,Bf,Bq,Br,B9,Ca,Bv,C0,Cz,C1,A0,A1,C2,Dd,ofOpt,ofOptS,Bw,Dh,Di,Cj,Cl,Bk,Bl,C4,Bj,Df,A7,Bd,Cm,Cn,Co,Cp,Cq,B3,B1,Nat.reduceLT,Nat.reduceAdd,Nat.reduceEqDiff,Aa,Ab,reduceIte,Ac,Ad,Ae,Af,Ag,Ah,Ai,Aj,Ak,Al,Am,Ao,Ap,Aq,Ar,Au,Av,Aw,Option.toList,Ay,Az,Tryz.f90,Cg,Ch,B7,B8,Do,Dp,fp0,Cb,C3,C8,C7,C6,C5,Dm,Dj,Dk,Cw,Ce,B0,Bt,Cf,Bz,By,Cc,Cd,Bs,Cv,Dq,Db,Dg,Cx,Cy,hf1,hf2,hf3,hf4,hf5,hf6,I2,Hg,Hf,He,q7,fd1,fa2,lp,lt,b49,q9,st701]
        refine WC.mono (Ge pc701 hp12 hi12 hts 1 0 [[114, 101, 116, 117, 114, 110, 115]] (by decide) (by decide)) ?_
        cases hX14 : Ec ts [[114, 101, 116, 117, 114, 110, 115]] j12 with
        | out => exact absurd hX14 (Fq _ _ _)
        | bad a e =>
          rintro _ ⟨S14, rfl, x14⟩
          simp only [A3,A6,Bb,Bc,Cr,Bn,B4,C9,Cu,B5,Cs,Ct,Da,Ci,Be,Bo,Bp,A2,A9,Ba,A5,De,B6,Bm,Bh,A8,A4,Bi,Bg,Bf,Bq,Br,B9,Ca,Bv,C0,Cz,C1,A0,A1,C2,Dd,ofOpt,ofOptS,Bw,Dh,Di,Cj,Cl,Bk,Bl,C4,Bj,Df,A7,Bd,Cm,Cn,Co,Cp,Cq,B3,B1,Nat.reduceLT,Nat.reduceAdd,Nat.reduceEqDiff,Aa,Ab,reduceIte,Ac,Ad,Ae,Af,Ag,Ah,Ai,Aj,Ak,Al,Am,Ao,Ap,Aq,Ar,Au,Av,Aw,Option.toList,Ay,Az,Tryz.f90,Cg,Ch,B7,B8,Do,Dp,fp0,Cb,C3,C8,C7,C6,C5,Dm,Dj,Dk,Cw,Ce,B0,Bt,Cf,Bz,By,Cc,Cd,Bs,Cv,Dq,Db,Dg,Cx,Cy,hf1,hf2,hf3,hf4,hf5,hf6,I2,Hg,Hf,He,q7,fd1,fa2,lp,lt,b49,q9,st701]
          exact ⟨_, rfl, px701.trans x14⟩
        | ok a14 j14 =>
          rw [hX14] at ho; rw [Ds] at ho ⊢
          rintro _ ⟨_, S14, rfl, rfl, x14, c14, hi14⟩
          have hp14 : p < S14.next := Nat.lt_of_lt_of_le hp12 x14.1
          have y15 := (px701).trans x14
          have bd_15 := pb701.keep x14
          have br_15 := pr701.keep x14
          have ne16 := Fi ho
          simp only [A3,A6,Bb,Bc,Cr,Bn,B4,C9,Cu,B5,Cs,Ct,Da,Ci,Be,Bo,Bp,A2,A9,Ba,A5,De,B6,Bm,Bh,A8,A4,Bi,Bg,Bf,Bq,Br,B9,Ca,Bv,C0,Cz,C1,A0,A1,C2,Dd,ofOpt,ofOptS,Bw,Dh,Di,Cj,Cl,Bk,Bl,C4,Bj,Df,A7,Bd,Cm,Cn,Co,Cp,Cq,B3,B1,Nat.reduceLT,Nat.reduceAdd,Nat.reduceEqDiff,Aa,Ab,reduceIte,Ac,Ad,Ae,Af,Ag,Ah,Ai,Aj,Ak,Al,Am,Ao,Ap,Aq,Ar,Au,Av,Aw,Option.toList,Ay,Az,Tryz.f90,Cg,Ch,B7,B8,Do,Dp,fp0,Cb,C3,C8,C7,C6,C5,Dm,Dj,Dk,Cw,Ce,B0,Bt,Cf,Bz,By,Cc,Cd,Bs,Cv,Dq,Db,Dg,Cx,Cy,hf1,hf2,hf3,hf4,hf5,hf6,I2,Hg,Hf,He,q7,fd1,fa2,lp,lt,b49,q9,st701,F9]
          refine WC.mono (Sw hts h2p 126 (Ks ts) (Rd ts) Y3 (dY hts) n hn _ _ c14 hp14 hi14 ne16) ?_
          cases hX17 : On ts (Ks ts) n j14 with
          | out => exact absurd hX17 ne16
          | bad a e =>
            rintro _ ⟨S17, rfl, x17⟩
            simp only [A3,A6,Bb,Bc,Cr,Bn,B4,C9,Cu,B5,Cs,Ct,Da,Ci,Be,Bo,Bp,A2,A9,Ba,A5,De,B6,Bm,Bh,A8,A4,Bi,Bg,Bf,Bq,Br,B9,Ca,Bv,C0,Cz,C1,A0,A1,C2,Dd,ofOpt,ofOptS,Bw,Dh,Di,Cj,Cl,Bk,Bl,C4,Bj,Df,A7,Bd,Cm,Cn,Co,Cp,Cq,B3,B1,Nat.reduceLT,Nat.reduceAdd,Nat.reduceEqDiff,Aa,Ab,reduceIte,Ac,Ad,Ae,Af,Ag,Ah,Ai,Aj,Ak,Al,Am,Ao,Ap,Aq,Ar,Au,Av,Aw,Option.toList,Ay,Az,Tryz.f90,Cg,Ch,B7,B8,Do,Dp,fp0,Cb,C3,C8,C7,C6,C5,Dm,Dj,Dk,Cw,Ce,B0,Bt,Cf,Bz,By,Cc,Cd,Bs,Cv,Dq,Db,Dg,Cx,Cy,hf1,hf2,hf3,hf4,hf5,hf6,I2,Hg,Hf,He,q7,fd1,fa2,lp,lt,b49,q9,st701]
            exact ⟨_, rfl, y15.trans x17⟩
          | ok l17 j17 =>
            rw [hX17] at ho; rw [Ds] at ho ⊢
            rintro _ ⟨vb, S17, rfl, hvb, x17, c17, hi17⟩
            have hp17 : p < S17.next := Nat.lt_of_lt_of_le hp14 x17.1
            have y18 := (y15).trans x17
            have bd_18 := bd_15.keep x17
            have br_18 := br_15.keep x17
            have st702 := st49_3 bd_18.get hvb
            obtain ⟨px702, pc702, pb702, pr702⟩ := Pe (ys := Gm a5.text a5.pos va vb .nils .nils) y18 y8.1 bd_18 c17 br_18 hne
            have eV : Zn ts n j17 = if (tk ts j17).text ∈ [[118, 97, 114]] then (G3 ts (j17 + 1)).bind fun x m => N2 ts n [x] m else .ok [] j17 := rfl
            rw [eV] at ho ⊢
            clear eV
            by_cases hm : (tk ts j17).text ∈ [[118, 97, 114]]
            · rw [if_pos hm] at ho ⊢
              simp only [A3,A6,Bb,Bc,Cr,Bn,B4,C9,Cu,B5,Cs,Ct,Da,Ci,Be,Bo,Bp,A2,A9,Ba,A5,De,B6,Bm,Bh,A8,A4,Bi,Bg,Bf,Bq,Br,B9,Ca,Bv,C0,Cz,C1,A0,A1,C2,Dd,ofOpt,ofOptS,Bw,Dh,Di,Cj,Cl,Bk,Bl,C4,Bj,Df,A7,Bd,Cm,Cn,Co,Cp,Cq,B3,B1,Nat.reduceLT,Nat.reduceAdd,Nat.reduceEqDiff,Aa,Ab,reduceIte,Ac,Ad,Ae,Af,Ag,Ah,Ai,Aj,Ak,Al,Am,Ao,Ap,Aq,Ar,Au,Av,Aw,Option.toList,Ay,Az,Tryz.f90,Cg,Ch,B7,B8,Do,Dp,fp0,Cb,C3,C8,C7,C6,C5,Dm,Dj,Dk,Cw,Ce,B0,Bt,Cf,Bz,By,Cc,Cd,Bs,Cv,Dq,Db,Dg,Cx,Cy,hf1,hf2,hf3,hf4,hf5,hf6,I2,Hg,Hf,He,q7,fd1,fa2,lp,lt,b49,q9,st701,st702]
              refine WC.mono (Hw pc702 hp17 hi17 hts 1 0 [[118, 97, 114]] (by decide) (by decide) hm) ?_
              rintro _ ⟨S19, rfl, x19, c19, hi19, hp19⟩
              have y20 := (px702).trans x19
              have bd_20 := pb702.keep x19
              have br_20 := pr702.keep x19
              obtain ⟨S21, q21, x21, c21, bv, hp21⟩ := Eu c19 hp19 (tk ts j17)
              have y22 := (y20).trans x21
              have bd_22 := bd_20.keep x21
              have br_22 := br_20.keep x21
              have ne23 := Fi ho
              simp only [A3,A6,Bb,Bc,Cr,Bn,B4,C9,Cu,B5,Cs,Ct,Da,Ci,Be,Bo,Bp,A2,A9,Ba,A5,De,B6,Bm,Bh,A8,A4,Bi,Bg,Bf,Bq,Br,B9,Ca,Bv,C0,Cz,C1,A0,A1,C2,Dd,ofOpt,ofOptS,Bw,Dh,Di,Cj,Cl,Bk,Bl,C4,Bj,Df,A7,Bd,Cm,Cn,Co,Cp,Cq,B3,B1,Nat.reduceLT,Nat.reduceAdd,Nat.reduceEqDiff,Aa,Ab,reduceIte,Ac,Ad,Ae,Af,Ag,Ah,Ai,Aj,Ak,Al,Am,Ao,Ap,Aq,Ar,Au,Av,Aw,Option.toList,Ay,Az,Tryz.f90,Cg,Ch,B7,B8,Do,Dp,fp0,Cb,C3,C8,C7,C6,C5,Dm,Dj,Dk,Cw,Ce,B0,Bt,Cf,Bz,By,Cc,Cd,Bs,Cv,Dq,Db,Dg,Cx,Cy,hf1,hf2,hf3,hf4,hf5,hf6,I2,Hg,Hf,He,q7,fd1,fa2,lp,lt,b49,q9,st701,st702,q21,F9]
              refine WC.mono (vars_p hts h2p n hn _ _ c21 hp21 hi19 ne23) ?_
              cases hX24 : (G3 ts (j17 + 1)).bind fun x m => N2 ts n [x] m with
              | out => exact absurd hX24 ne23
              | bad a e =>
                rintro _ ⟨S24, rfl, x24⟩
                simp only [A3,A6,Bb,Bc,Cr,Bn,B4,C9,Cu,B5,Cs,Ct,Da,Ci,Be,Bo,Bp,A2,A9,Ba,A5,De,B6,Bm,Bh,A8,A4,Bi,Bg,Bf,Bq,Br,B9,Ca,Bv,C0,Cz,C1,A0,A1,C2,Dd,ofOpt,ofOptS,Bw,Dh,Di,Cj,Cl,Bk,Bl,C4,Bj,Df,A7,Bd,Cm,Cn,Co,Cp,Cq,B3,B1,Nat.reduceLT,Nat.reduceAdd,Nat.reduceEqDiff,Aa,Ab,reduceIte,Ac,Ad,Ae,Af,Ag,Ah,Ai,Aj,Ak,Al,Am,Ao,Ap,Aq,Ar,Au,Av,Aw,Option.toList,Ay,Az,Tryz.f90,Cg,Ch,B7,B8,Do,Dp,fp0,Cb,C3,C8,C7,C6,C5,Dm,Dj,Dk,Cw,Ce,B0,Bt,Cf,Bz,By,Cc,Cd,Bs,Cv,Dq,Db,Dg,Cx,Cy,hf1,hf2,hf3,hf4,hf5,hf6,I2,Hg,Hf,He,q7,fd1,fa2,lp,lt,b49,q9,st701,st702,q21]
                exact ⟨_, rfl, y22.trans x24⟩
              | ok l24 j24 =>
                rw [hX24] at ho; rw [Ds] at ho ⊢
                rintro _ ⟨vc, S24, rfl, hvc, x24, c24, hi24⟩
                have hp24 : p < S24.next := Nat.lt_of_lt_of_le hp21 x24.1
                have y25 := (y22).trans x24
                have bd_25 := bd_22.keep x24
                have br_25 := br_22.keep x24
                have st703 := st49_4 bd_25.get hvc
                obtain ⟨px703, pc703, pb703, pr703⟩ := Pe (ys := Gm a5.text a5.pos va vb vc .nils) y25 y8.1 bd_25 c24 br_25 hne
                simp only [A3,A6,Bb,Bc,Cr,Bn,B4,C9,Cu,B5,Cs,Ct,Da,Ci,Be,Bo,Bp,A2,A9,Ba,A5,De,B6,Bm,Bh,A8,A4,Bi,Bg,Bf,Bq,Br,B9,Ca,Bv,C0,Cz,C1,A0,A1,C2,Dd,ofOpt,ofOptS,Bw,Dh,Di,Cj,Cl,Bk,Bl,C4,Bj,Df,A7,Bd,Cm,Cn,Co,Cp,Cq,B3,B1,Nat.reduceLT,Nat.reduceAdd,Nat.reduceEqDiff,Aa,Ab,reduceIte,Ac,Ad,Ae,Af,Ag,Ah,Ai,Aj,Ak,Al,Am,Ao,Ap,Aq,Ar,Au,Av,Aw,Option.toList,Ay,Az,Tryz.f90,Cg,Ch,B7,B8,Do,Dp,fp0,Cb,C3,C8,C7,C6,C5,Dm,Dj,Dk,Cw,Ce,B0,Bt,Cf,Bz,By,Cc,Cd,Bs,Cv,Dq,Db,Dg,Cx,Cy,hf1,hf2,hf3,hf4,hf5,hf6,I2,Hg,Hf,He,q7,fd1,fa2,lp,lt,b49,q9,st701,st702,q21,st703]
                refine WC.mono (Ge pc703 hp24 hi24 hts 1 0 [[108, 101, 116]] (by decide) (by decide)) ?_
                cases hX26 : Ec ts [[108, 101, 116]] j24 with
                | out => exact absurd hX26 (Fq _ _ _)
                | bad a e =>
                  rintro _ ⟨S26, rfl, x26⟩
                  simp only [A3,A6,Bb,Bc,Cr,Bn,B4,C9,Cu,B5,Cs,Ct,Da,Ci,Be,Bo,Bp,A2,A9,Ba,A5,De,B6,Bm,Bh,A8,A4,Bi,Bg,Bf,Bq,Br,B9,Ca,Bv,C0,Cz,C1,A0,A1,C2,Dd,ofOpt,ofOptS,Bw,Dh,Di,Cj,Cl,Bk,Bl,C4,Bj,Df,A7,Bd,Cm,Cn,Co,Cp,Cq,B3,B1,Nat.reduceLT,Nat.reduceAdd,Nat.reduceEqDiff,Aa,Ab,reduceIte,Ac,Ad,Ae,Af,Ag,Ah,Ai,Aj,Ak,Al,Am,Ao,Ap,Aq,Ar,Au,Av,Aw,Option.toList,Ay,Az,Tryz.f90,Cg,Ch,B7,B8,Do,Dp,fp0,Cb,C3,C8,C7,C6,C5,Dm,Dj,Dk,Cw,Ce,B0,Bt,Cf,Bz,By,Cc,Cd,Bs,Cv,Dq,Db,Dg,Cx,Cy,hf1,hf2,hf3,hf4,hf5,hf6,I2,Hg,Hf,He,q7,fd1,fa2,lp,lt,b49,q9,st701,st702,q21,st703]
                  exact ⟨_, rfl, px703.trans x26⟩
                | ok a26 j26 =>
                  rw [hX26] at ho; rw [Ds] at ho ⊢
                  rintro _ ⟨_, S26, rfl, rfl, x26, c26, hi26⟩
                  have hp26 : p < S26.next := Nat.lt_of_lt_of_le hp24 x26.1
                  have y27 := (px703).trans x26
                  have bd_27 := pb703.keep x26
                  have br_27 := pr703.keep x26
                  simp only [A3,A6,Bb,Bc,Cr,Bn,B4,C9,Cu,B5,Cs,Ct,Da,Ci,Be,Bo,Bp,A2,A9,Ba,A5,De,B6,Bm,Bh,A8,A4,Bi,Bg,Bf,Bq,Br,B9,Ca,Bv,C0,Cz,C1,A0,A1,C2,Dd,ofOpt,ofOptS,Bw,Dh,Di,Cj,Cl,Bk,Bl,C4,Bj,Df,A7,Bd,Cm,Cn,Co,Cp,Cq,B3,B1,Nat.reduceLT,Nat.reduceAdd,Nat.reduceEqDiff,Aa,Ab,reduceIte,Ac,Ad,Ae,Af,Ag,Ah,Ai,Aj,Ak,Al,Am,Ao,Ap,Aq,Ar,Au,Av,Aw,Option.toList,Ay,Az,Tryz.f90,Cg,Ch,B7,B8,Do,Dp,fp0,Cb,C3,C8,C7,C6,C5,Dm,Dj,Dk,Cw,Ce,B0,Bt,Cf,Bz,By,Cc,Cd,Bs,Cv,Dq,Db,Dg,Cx,Cy,hf1,hf2,hf3,hf4,hf5,hf6,I2,Hg,Hf,He,q7,fd1,fa2,lp,lt,b49,q9,st701,st702,q21,st703]
                  have neE := Fi ho
                  refine WX.mono (Vj hts h2p n hn S hp S.next S7.next (Nat.le_refl _) y8.1 hne a5.text a5.pos va vb vc n [] j26 _ _ .nils [] neE (by simp; omega) (by simp [T.get_set]) (by simp [T.get_set]) (by simp [T.get_set]) c26 hp26 hi26 br_27 bd_27 (.inl ⟨rfl, rfl⟩) .nil y27) ?_
                  rintro _ (⟨t9, S9, d9, es9, l9, i9, rfl, g0, g2, g4, hr9, hb9, hq9, hf9, x9, c9, hi9, hp9, e9⟩ | ⟨t9, S9, a9, e9, rfl, x9, q9⟩)
                  · rw [e9] at ho ⊢
                    rw [Ds] at ho ⊢
                    simp only [A3,A6,Bb,Bc,Cr,Bn,B4,C9,Cu,B5,Cs,Ct,Da,Ci,Be,Bo,Bp,A2,A9,Ba,A5,De,B6,Bm,Bh,A8,A4,Bi,Bg,Bf,Bq,Br,B9,Ca,Bv,C0,Cz,C1,A0,A1,C2,Dd,ofOpt,ofOptS,Bw,Dh,Di,Cj,Cl,Bk,Bl,C4,Bj,Df,A7,Bd,Cm,Cn,Co,Cp,Cq,B3,B1,Nat.reduceLT,Nat.reduceAdd,Nat.reduceEqDiff,Aa,Ab,reduceIte,Ac,Ad,Ae,Af,Ag,Ah,Ai,Aj,Ak,Al,Am,Ao,Ap,Aq,Ar,Au,Av,Aw,Option.toList,Ay,Az,Tryz.f90,Cg,Ch,B7,B8,Do,Dp,fp0,Cb,C3,C8,C7,C6,C5,Dm,Dj,Dk,Cw,Ce,B0,Bt,Cf,Bz,By,Cc,Cd,Bs,Cv,Dq,Db,Dg,Cx,Cy,hf1,hf2,hf3,hf4,hf5,hf6,g0,g2,g4]
                    refine WC.mono (Ge c9 hp9 hi9 hts 1 0 [[116, 101, 108]] (by decide) (by decide)) ?_
                    cases hX29 : Ec ts [[116, 101, 108]] i9 with
                    | out => exact absurd hX29 (Fq _ _ _)
                    | bad a e =>
                      rintro _ ⟨S29, rfl, x29⟩
                      simp only [A3,A6,Bb,Bc,Cr,Bn,B4,C9,Cu,B5,Cs,Ct,Da,Ci,Be,Bo,Bp,A2,A9,Ba,A5,De,B6,Bm,Bh,A8,A4,Bi,Bg,Bf,Bq,Br,B9,Ca,Bv,C0,Cz,C1,A0,A1,C2,Dd,ofOpt,ofOptS,Bw,Dh,Di,Cj,Cl,Bk,Bl,C4,Bj,Df,A7,Bd,Cm,Cn,Co,Cp,Cq,B3,B1,Nat.reduceLT,Nat.reduceAdd,Nat.reduceEqDiff,Aa,Ab,reduceIte,Ac,Ad,Ae,Af,Ag,Ah,Ai,Aj,Ak,Al,Am,Ao,Ap,Aq,Ar,Au,Av,Aw,Option.toList,Ay,Az,Tryz.f90,Cg,Ch,B7,B8,Do,Dp,fp0,Cb,C3,C8,C7,C6,C5,Dm,Dj,Dk,Cw,Ce,B0,Bt,Cf,Bz,By,Cc,Cd,Bs,Cv,Dq,Db,Dg,Cx,Cy,hf1,hf2,hf3,hf4,hf5,hf6,g0,g2,g4]
                      exact ⟨_, rfl, x9.trans x29⟩
                    | ok a29 j29 =>
                      rw [hX29] at ho; rw [Ds] at ho ⊢
                      rintro _ ⟨_, S29, rfl, rfl, x29, c29, hi29⟩
                      have hp29 : p < S29.next := Nat.lt_of_lt_of_le hp9 x29.1
                      have y30 := (x9).trans x29
                      have br_30 := hr9.keep x29
                      have bd_30 := hb9.keep x29
                      have lz := ldG jY V8 bd_30.get rfl
                      obtain ⟨g31, h31, gx, gc⟩ := Q1 jY V8 (S0 := S) c29 br_30 rfl (Nat.le_refl _) y30 (xs := Gm a5.text a5.pos va vb vc d9) rfl
                      simp only [A3,A6,Bb,Bc,Cr,Bn,B4,C9,Cu,B5,Cs,Ct,Da,Ci,Be,Bo,Bp,A2,A9,Ba,A5,De,B6,Bm,Bh,A8,A4,Bi,Bg,Bf,Bq,Br,B9,Ca,Bv,C0,Cz,C1,A0,A1,C2,Dd,ofOpt,ofOptS,Bw,Dh,Di,Cj,Cl,Bk,Bl,C4,Bj,Df,A7,Bd,Cm,Cn,Co,Cp,Cq,B3,B1,Nat.reduceLT,Nat.reduceAdd,Nat.reduceEqDiff,Aa,Ab,reduceIte,Ac,Ad,Ae,Af,Ag,Ah,Ai,Aj,Ak,Al,Am,Ao,Ap,Aq,Ar,Au,Av,Aw,Option.toList,Ay,Az,Tryz.f90,Cg,Ch,B7,B8,Do,Dp,fp0,Cb,C3,C8,C7,C6,C5,Dm,Dj,Dk,Cw,Ce,B0,Bt,Cf,Bz,By,Cc,Cd,Bs,Cv,Dq,Db,Dg,Cx,Cy,hf1,hf2,hf3,hf4,hf5,hf6,g0,g2,g4,lz,g31,h31]
                      exact ⟨_, _, rfl, ⟨va, vb, vc, d9, es9, rfl, hva, hvb, hvc, hq9.imp id (fun ⟨tok, h, _⟩ => ⟨tok, h⟩), hf9⟩, gx, gc, hi29⟩
                  · rw [q9] at ho ⊢
                    simp only [A3,A6,Bb,Bc,Cr,Bn,B4,C9,Cu,B5,Cs,Ct,Da,Ci,Be,Bo,Bp,A2,A9,Ba,A5,De,B6,Bm,Bh,A8,A4,Bi,Bg,Bf,Bq,Br,B9,Ca,Bv,C0,Cz,C1,A0,A1,C2,Dd,ofOpt,ofOptS,Bw,Dh,Di,Cj,Cl,Bk,Bl,C4,Bj,Df,A7,Bd,Cm,Cn,Co,Cp,Cq,B3,B1,Nat.reduceLT,Nat.reduceAdd,Nat.reduceEqDiff,Aa,Ab,reduceIte,Ac,Ad,Ae,Af,Ag,Ah,Ai,Aj,Ak,Al,Am,Ao,Ap,Aq,Ar,Au,Av,Aw,Option.toList,Ay,Az,Tryz.f90,Cg,Ch,B7,B8,Do,Dp,fp0,Cb,C3,C8,C7,C6,C5,Dm,Dj,Dk,Cw,Ce,B0,Bt,Cf,Bz,By,Cc,Cd,Bs,Cv,Dq,Db,Dg,Cx,Cy,hf1,hf2,hf3,hf4,hf5,hf6]
                    exact ⟨_, rfl, x9⟩
            · rw [if_neg hm] at ho ⊢
              rw [Ds] at ho ⊢
              simp only [A3,A6,Bb,Bc,Cr,Bn,B4,C9,Cu,B5,Cs,Ct,Da,Ci,Be,Bo,Bp,A2,A9,Ba,A5,De,B6,Bm,Bh,A8,A4,Bi,Bg,Bf,Bq,Br,B9,Ca,Bv,C0,Cz,C1,A0,A1,C2,Dd,ofOpt,ofOptS,Bw,Dh,Di,Cj,Cl,Bk,Bl,C4,Bj,Df,A7,Bd,Cm,Cn,Co,Cp,Cq,B3,B1,Nat.reduceLT,Nat.reduceAdd,Nat.reduceEqDiff,Aa,Ab,reduceIte,Ac,Ad,Ae,Af,Ag,Ah,Ai,Aj,Ak,Al,Am,Ao,Ap,Aq,Ar,Au,Av,Aw,Option.toList,Ay,Az,Tryz.f90,Cg,Ch,B7,B8,Do,Dp,fp0,Cb,C3,C8,C7,C6,C5,Dm,Dj,Dk,Cw,Ce,B0,Bt,Cf,Bz,By,Cc,Cd,Bs,Cv,Dq,Db,Dg,Cx,Cy,hf1,hf2,hf3,hf4,hf5,hf6,I2,Hg,Hf,He,q7,fd1,fa2,lp,lt,b49,q9,st701,st702]
              refine WC.mono (Iv pc702 hp17 hi17 hts 1 0 [[118, 97, 114]] (by decide) hm) ?_
              rintro _ ⟨S32, rfl, x32, c32, hi32, hp32⟩
              have y33 := (px702).trans x32
              have bd_33 := pb702.keep x32
              have br_33 := pr702.keep x32
              obtain ⟨S34, q34, x34, c34, bv, hp34⟩ := Eu c32 hp32 Dx
              have y35 := (y33).trans x34
              have bd_35 := bd_33.keep x34
              have br_35 := br_33.keep x34
              simp only [A3,A6,Bb,Bc,Cr,Bn,B4,C9,Cu,B5,Cs,Ct,Da,Ci,Be,Bo,Bp,A2,A9,Ba,A5,De,B6,Bm,Bh,A8,A4,Bi,Bg,Bf,Bq,Br,B9,Ca,Bv,C0,Cz,C1,A0,A1,C2,Dd,ofOpt,ofOptS,Bw,Dh,Di,Cj,Cl,Bk,Bl,C4,Bj,Df,A7,Bd,Cm,Cn,Co,Cp,Cq,B3,B1,Nat.reduceLT,Nat.reduceAdd,Nat.reduceEqDiff,Aa,Ab,reduceIte,Ac,Ad,Ae,Af,Ag,Ah,Ai,Aj,Ak,Al,Am,Ao,Ap,Aq,Ar,Au,Av,Aw,Option.toList,Ay,Az,Tryz.f90,Cg,Ch,B7,B8,Do,Dp,fp0,Cb,C3,C8,C7,C6,C5,Dm,Dj,Dk,Cw,Ce,B0,Bt,Cf,Bz,By,Cc,Cd,Bs,Cv,Dq,Db,Dg,Cx,Cy,hf1,hf2,hf3,hf4,hf5,hf6,I2,Hg,Hf,He,q7,fd1,fa2,lp,lt,b49,q9,st701,st702,q34]
              refine WC.mono (Ge c34 hp34 hi32 hts 1 0 [[108, 101, 116]] (by decide) (by decide)) ?_
              cases hX36 : Ec ts [[108, 101, 116]] j17 with
              | out => exact absurd hX36 (Fq _ _ _)
              | bad a e =>
                rintro _ ⟨S36, rfl, x36⟩
                simp only [A3,A6,Bb,Bc,Cr,Bn,B4,C9,Cu,B5,Cs,Ct,Da,Ci,Be,Bo,Bp,A2,A9,Ba,A5,De,B6,Bm,Bh,A8,A4,Bi,Bg,Bf,Bq,Br,B9,Ca,Bv,C0,Cz,C1,A0,A1,C2,Dd,ofOpt,ofOptS,Bw,Dh,Di,Cj,Cl,Bk,Bl,C4,Bj,Df,A7,Bd,Cm,Cn,Co,Cp,Cq,B3,B1,Nat.reduceLT,Nat.reduceAdd,Nat.reduceEqDiff,Aa,Ab,reduceIte,Ac,Ad,Ae,Af,Ag,Ah,Ai,Aj,Ak,Al,Am,Ao,Ap,Aq,Ar,Au,Av,Aw,Option.toList,Ay,Az,Tryz.f90,Cg,Ch,B7,B8,Do,Dp,fp0,Cb,C3,C8,C7,C6,C5,Dm,Dj,Dk,Cw,Ce,B0,Bt,Cf,Bz,By,Cc,Cd,Bs,Cv,Dq,Db,Dg,Cx,Cy,hf1,hf2,hf3,hf4,hf5,hf6,I2,Hg,Hf,He,q7,fd1,fa2,lp,lt,b49,q9,st701,st702,q34]
                exact ⟨_, rfl, y35.trans x36⟩
              | ok a36 j36 =>
                rw [hX36] at ho; rw [Ds] at ho ⊢
                rintro _ ⟨_, S36, rfl, rfl, x36, c36, hi36⟩
                have hp36 : p < S36.next := Nat.lt_of_lt_of_le hp34 x36.1
                have y37 := (y35).trans x36
                have bd_37 := bd_35.keep x36
                have br_37 := br_35.keep x36
                simp only [A3,A6,Bb,Bc,Cr,Bn,B4,C9,Cu,B5,Cs,Ct,Da,Ci,Be,Bo,Bp,A2,A9,Ba,A5,De,B6,Bm,Bh,A8,A4,Bi,Bg,Bf,Bq,Br,B9,Ca,Bv,C0,Cz,C1,A0,A1,C2,Dd,ofOpt,ofOptS,Bw,Dh,Di,Cj,Cl,Bk,Bl,C4,Bj,Df,A7,Bd,Cm,Cn,Co,Cp,Cq,B3,B1,Nat.reduceLT,Nat.reduceAdd,Nat.reduceEqDiff,Aa,Ab,reduceIte,Ac,Ad,Ae,Af,Ag,Ah,Ai,Aj,Ak,Al,Am,Ao,Ap,Aq,Ar,Au,Av,Aw,Option.toList,Ay,Az,Tryz.f90,Cg,Ch,B7,B8,Do,Dp,fp0,Cb,C3,C8,C7,C6,C5,Dm,Dj,Dk,Cw,Ce,B0,Bt,Cf,Bz,By,Cc,Cd,Bs,Cv,Dq,Db,Dg,Cx,Cy,hf1,hf2,hf3,hf4,hf5,hf6,I2,Hg,Hf,He,q7,fd1,fa2,lp,lt,b49,q9,st701,st702,q34]
                have neE := Fi ho
                refine WX.mono (Vj hts h2p n hn S hp S.next S7.next (Nat.le_refl _) y8.1 hne a5.text a5.pos va vb .nils n [] j36 _ _ .nils [] neE (by simp; omega) (by simp [T.get_set]) (by simp [T.get_set]) (by simp [T.get_set]) c36 hp36 hi36 br_37 bd_37 (.inl ⟨rfl, rfl⟩) .nil y37) ?_
                rintro _ (⟨t9, S9, d9, es9, l9, i9, rfl, g0, g2, g4, hr9, hb9, hq9, hf9, x9, c9, hi9, hp9, e9⟩ | ⟨t9, S9, a9, e9, rfl, x9, q9⟩)
                · rw [e9] at ho ⊢
                  rw [Ds] at ho ⊢
                  simp only [A3,A6,Bb,Bc,Cr,Bn,B4,C9,Cu,B5,Cs,Ct,Da,Ci,Be,Bo,Bp,A2,A9,Ba,A5,De,B6,Bm,Bh,A8,A4,Bi,Bg,Bf,Bq,Br,B9,Ca,Bv,C0,Cz,C1,A0,A1,C2,Dd,ofOpt,ofOptS,Bw,Dh,Di,Cj,Cl,Bk,Bl,C4,Bj,Df,A7,Bd,Cm,Cn,Co,Cp,Cq,B3,B1,Nat.reduceLT,Nat.reduceAdd,Nat.reduceEqDiff,Aa,Ab,reduceIte,Ac,Ad,Ae,Af,Ag,Ah,Ai,Aj,Ak,Al,Am,Ao,Ap,Aq,Ar,Au,Av,Aw,Option.toList,Ay,Az,Tryz.f90,Cg,Ch,B7,B8,Do,Dp,fp0,Cb,C3,C8,C7,C6,C5,Dm,Dj,Dk,Cw,Ce,B0,Bt,Cf,Bz,By,Cc,Cd,Bs,Cv,Dq,Db,Dg,Cx,Cy,hf1,hf2,hf3,hf4,hf5,hf6,g0,g2,g4]
                  refine WC.mono (Ge c9 hp9 hi9 hts 1 0 [[116, 101, 108]] (by decide) (by decide)) ?_
                  cases hX39 : Ec ts [[116, 101, 108]] i9 with
                  | out => exact absurd hX39 (Fq _ _ _)
                  | bad a e =>
                    rintro _ ⟨S39, rfl, x39⟩
                    simp only [A3,A6,Bb,Bc,Cr,Bn,B4,C9,Cu,B5,Cs,Ct,Da,Ci,Be,Bo,Bp,A2,A9,Ba,A5,De,B6,Bm,Bh,A8,A4,Bi,Bg,Bf,Bq,Br,B9,Ca,Bv,C0,Cz,C1,A0,A1,C2,Dd,ofOpt,ofOptS,Bw,Dh,Di,Cj,Cl,Bk,Bl,C4,Bj,Df,A7,Bd,Cm,Cn,Co,Cp,Cq,B3,B1,Nat.reduceLT,Nat.reduceAdd,Nat.reduceEqDiff,Aa,Ab,reduceIte,Ac,Ad,Ae,Af,Ag,Ah,Ai,Aj,Ak,Al,Am,Ao,Ap,Aq,Ar,Au,Av,Aw,Option.toList,Ay,Az,Tryz.f90,Cg,Ch,B7,B8,Do,Dp,fp0,Cb,C3,C8,C7,C6,C5,Dm,Dj,Dk,Cw,Ce,B0,Bt,Cf,Bz,By,Cc,Cd,Bs,Cv,Dq,Db,Dg,Cx,Cy,hf1,hf2,hf3,hf4,hf5,hf6,g0,g2,g4]
                    exact ⟨_, rfl, x9.trans x39⟩
                  | ok a39 j39 =>
                    rw [hX39] at ho; rw [Ds] at ho ⊢
                    rintro _ ⟨_, S39, rfl, rfl, x39, c39, hi39⟩
                    have hp39 : p < S39.next := Nat.lt_of_lt_of_le hp9 x39.1
                    have y40 := (x9).trans x39
                    have br_40 := hr9.keep x39
                    have bd_40 := hb9.keep x39
                    have lz := ldG jY V8 bd_40.get rfl
                    obtain ⟨g41, h41, gx, gc⟩ := Q1 jY V8 (S0 := S) c39 br_40 rfl (Nat.le_refl _) y40 (xs := Gm a5.text a5.pos va vb .nils d9) rfl
                    simp only [A3,A6,Bb,Bc,Cr,Bn,B4,C9,Cu,B5,Cs,Ct,Da,Ci,Be,Bo,Bp,A2,A9,Ba,A5,De,B6,Bm,Bh,A8,A4,Bi,Bg,Bf,Bq,Br,B9,Ca,Bv,C0,Cz,C1,A0,A1,C2,Dd,ofOpt,ofOptS,Bw,Dh,Di,Cj,Cl,Bk,Bl,C4,Bj,Df,A7,Bd,Cm,Cn,Co,Cp,Cq,B3,B1,Nat.reduceLT,Nat.reduceAdd,Nat.reduceEqDiff,Aa,Ab,reduceIte,Ac,Ad,Ae,Af,Ag,Ah,Ai,Aj,Ak,Al,Am,Ao,Ap,Aq,Ar,Au,Av,Aw,Option.toList,Ay,Az,Tryz.f90,Cg,Ch,B7,B8,Do,Dp,fp0,Cb,C3,C8,C7,C6,C5,Dm,Dj,Dk,Cw,Ce,B0,Bt,Cf,Bz,By,Cc,Cd,Bs,Cv,Dq,Db,Dg,Cx,Cy,hf1,hf2,hf3,hf4,hf5,hf6,g0,g2,g4,lz,g41,h41]
                    exact ⟨_, _, rfl, ⟨va, vb, .nils, d9, es9, rfl, hva, hvb, .inl ⟨rfl, rfl⟩, hq9.imp id (fun ⟨tok, h, _⟩ => ⟨tok, h⟩), hf9⟩, gx, gc, hi39⟩
                · rw [q9] at ho ⊢
                  simp only [A3,A6,Bb,Bc,Cr,Bn,B4,C9,Cu,B5,Cs,Ct,Da,Ci,Be,Bo,Bp,A2,A9,Ba,A5,De,B6,Bm,Bh,A8,A4,Bi,Bg,Bf,Bq,Br,B9,Ca,Bv,C0,Cz,C1,A0,A1,C2,Dd,ofOpt,ofOptS,Bw,Dh,Di,Cj,Cl,Bk,Bl,C4,Bj,Df,A7,Bd,Cm,Cn,Co,Cp,Cq,B3,B1,Nat.reduceLT,Nat.reduceAdd,Nat.reduceEqDiff,Aa,Ab,reduceIte,Ac,Ad,Ae,Af,Ag,Ah,Ai,Aj,Ak,Al,Am,Ao,Ap,Aq,Ar,Au,Av,Aw,Option.toList,Ay,Az,Tryz.f90,Cg,Ch,B7,B8,Do,Dp,fp0,Cb,C3,C8,C7,C6,C5,Dm,Dj,Dk,Cw,Ce,B0,Bt,Cf,Bz,By,Cc,Cd,Bs,Cv,Dq,Db,Dg,Cx,Cy,hf1,hf2,hf3,hf4,hf5,hf6]
                  exact ⟨_, rfl, x9⟩
end
end Go.Ax
