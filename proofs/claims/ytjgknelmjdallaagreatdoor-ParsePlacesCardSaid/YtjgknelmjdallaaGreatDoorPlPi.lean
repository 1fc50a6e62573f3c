/-
  What the parser Lo: lists of declarations, what stands on the left of equations.
-/
import Derived.Test.YtjgknelmjdallaaGreatDoorPlPh
noncomputable section
namespace Go.Ax
open Go.RowKit Go.Proofs
set_option linter.unusedVariables false
set_option linter.unusedSimpArgs false
set_option maxRecDepth 100000

def N2 (ts : List Tk) : Nat → List PD → Nat → PR (List PD)
  | 0, _, _ => .out
  | n + 1, l, i => if (tk ts i).kind = 1 then (G3 ts i).bind fun d j => N2 ts n (l ++ [d]) j else .ok l i
def Oo (ts : List Tk) (n i : Nat) : PR (List (List UInt8 × Nat)) := if (tk ts i).kind = 1 then (Jl ts i).bind fun x j => .ok [x] j else (Ec ts [[40]] i).bind fun _ j => (Jl ts j).bind fun x j => (Ec ts [[44]] j).bind fun _ j => ((Jl ts j).bind fun y m => H8 ts (Jl ts) n [y] m).bind fun l m => .ok (x :: l) m
theorem Wv {α : Type} (ts : List Tk) (kid : Nat → PR α) : ∀ (n : Nat) (l : List α) (i : Nat) (r : List α) (j : Nat), H8 ts kid n l i = .ok r j → r.length ≤ l.length + n
  | 0, l, i, r, j, h => by cases h
  | n + 1, l, i, r, j, h => by
    unfold H8 at h
    split at h
    · cases hk : kid (i + 1) with
      | out => rw [hk] at h; cases h
      | bad a e => rw [hk] at h; cases h
      | ok a m =>
        rw [hk, Ds] at h
        have := Wv ts kid n _ _ _ _ h
        rw [List.length_append] at this
        simp at this
        omega
    · cases hk : Ec ts [[41]] i with
      | out => rw [hk] at h; cases h
      | bad a e => rw [hk] at h; cases h
      | ok a m =>
        rw [hk, Ds] at h
        cases h
        omega
/-- A row put D6 one thing. -/
theorem app55r {p k i : Nat} {S : St} {ts : List Tk} (h : Cur S p k ts i) (hp : p < S.next) (x : List UInt8 × Nat) {v : AV} {l : List (List UInt8 × Nat)} (hv : J1 2 Gc v l) (hl : l.length ≤ 2000000) :
    ∃ S' w, G6 E1 S 55 55 (.sl 1 0 2 [Gc x]) v = some (w, S') ∧ J1 2 Gc w (x :: l) ∧ El p S S' ∧ Cur S' p k ts i := by
  obtain ⟨i', hi, hz0, hz1, hz2⟩ := Gg i59
  rw [app55]
  have same : ∀ (w : AV), w = .sl 1 0 2 [Gc x] → J1 2 Gc w [x] := fun w e => .inr ⟨1, 0, e⟩
  rcases hv with ⟨rfl, rfl⟩ | ⟨tok, off, rfl⟩
  · refine ⟨S, .sl 1 0 2 [Gc x], ?_, same _ rfl, ⟨Nat.le_refl _, fun _ _ _ => rfl⟩, h⟩
    simp [Fp, jQ, hi, hz0, hz1, Kh, kM, Value.cells]
  · cases l with
    | nil =>
      refine ⟨S, .sl 1 0 2 [Gc x], ?_, same _ rfl, ⟨Nat.le_refl _, fun _ _ _ => rfl⟩, h⟩
      simp [Fp, jQ, hi, hz0, hz1, Kh, kM, Value.cells]
    | cons y r =>
      have hb1 : (1 + (r.length + 1)) * 24 ≤ 140737488355328 := by simp at hl; omega
      have hb2 : 1 + (r.length + 1) ≤ 9223372036854775807 := by omega
      refine ⟨S.grown 1 ((Gc x :: Gc y :: r.map Gc).length * 2), .sl S.next 0 2 ((x :: y :: r).map Gc), ?_, .inr ⟨_, _, rfl⟩, ⟨Nat.le_succ _, fun id hid _ => ?_⟩, ?_⟩
      · simp [Fp, jQ, hi, hz0, hz1, hz2, Kh, kM, Value.cells, Lj, hb1, hb2]
      · show (S.mem.set S.next _).get id = _
        rw [T.get_set, if_neg (by omega)]
      · show (S.mem.set S.next _).get p = _
        rw [T.get_set, if_neg (by omega)]; exact h
section
variable {p k : Nat} {ts : List Tk} (hts : TokOk ts)
include hts

set_option maxHeartbeats 16000000 in
theorem Sw (h2p : 2 ≤ p) (m : Nat) (kid : Nat → PR PD) (hkn : ∀ i, kid i ≠ .out) (hF : ∃ fn, E1.F m = some fn) (hkid : bW p k ts m Vc kid) (n : Nat) (hn : n ≤ 1000000) (S : St) (i : Nat) (h : Cur S p k ts i) (hp : p < S.next) (hi : i < ts.length) (ho : On ts kid n i ≠ .out) : WC E1 125 [.ptr p 0, F9 m p] S (Ku p k ts S (J1 6 Ga) (On ts kid n i)) := by
  have eP : On ts kid n i = (Ec ts [[40]] i).bind fun _ j => if (tk ts j).text ∈ [[41]] then .ok [] (j + 1) else (kid j).bind fun x m => H8 ts kid n [x] m := rfl
  rw [eP] at ho ⊢
  clear eP
  refine Ek Tryz.f125 (by kernel_rfl) (by kernel_rfl) (by kernel_rfl) (show (_ : Nat) ≤ _ from by show (_ : Nat) ≤ _; simp [Tryz.f125]) ?_
  obtain ⟨fn1, hf1⟩ := Hn
  obtain ⟨fn2, hf2⟩ := J6
  obtain ⟨fn3, hf3⟩ := fnOk156
  simp only [A3,A6,Bb,Bc,Cr,Bn,B4,C9,Cu,B5,Cs,Ct,Da,Ci,Be,Bo,Bp,A2,A9,Ba,A5,De,B6,Bm,Bh,A8,A4,Bi,Bg,Bf,Bq,Br,B9,Ca,Bv,C0,Cz,C1,A0,A1,C2,Dd,ofOpt,ofOptS,Bw,Dh,Di,Cj,Cl,Bk,Bl,C4,Bj,Df,A7,Bd,Cm,Cn,Co,Cp,Cq,B3,B1,Nat.reduceLT,Nat.reduceAdd,Nat.reduceEqDiff,Aa,Ab,reduceIte,Ac,Ad,Ae,Af,Ag,Ah,Ai,Aj,Ak,Al,Am,Ao,Ap,Aq,Ar,Au,Av,Aw,Option.toList,Ay,Az,Tryz.f125,Cg,Ch,B7,B8,Do,Dp,fp0,Cb,C3,C8,C7,C6,C5,Dm,Dj,Dk,Cw,Ce,B0,Bt,Cf,Bz,By,Cc,Cd,Bs,Cv,Dq,Db,Dg,Cx,Cy,hf1,hf2,hf3]
  refine WC.mono (Ge h hp hi hts 1 0 [[40]] (by decide) (by decide)) ?_
  cases hX1 : Ec ts [[40]] i with
  | out => exact absurd hX1 (Fq _ _ _)
  | bad a e =>
    rintro _ ⟨S1, rfl, x1⟩
    simp only [A3,A6,Bb,Bc,Cr,Bn,B4,C9,Cu,B5,Cs,Ct,Da,Ci,Be,Bo,Bp,A2,A9,Ba,A5,De,B6,Bm,Bh,A8,A4,Bi,Bg,Bf,Bq,Br,B9,Ca,Bv,C0,Cz,C1,A0,A1,C2,Dd,ofOpt,ofOptS,Bw,Dh,Di,Cj,Cl,Bk,Bl,C4,Bj,Df,A7,Bd,Cm,Cn,Co,Cp,Cq,B3,B1,Nat.reduceLT,Nat.reduceAdd,Nat.reduceEqDiff,Aa,Ab,reduceIte,Ac,Ad,Ae,Af,Ag,Ah,Ai,Aj,Ak,Al,Am,Ao,Ap,Aq,Ar,Au,Av,Aw,Option.toList,Ay,Az,Tryz.f125,Cg,Ch,B7,B8,Do,Dp,fp0,Cb,C3,C8,C7,C6,C5,Dm,Dj,Dk,Cw,Ce,B0,Bt,Cf,Bz,By,Cc,Cd,Bs,Cv,Dq,Db,Dg,Cx,Cy,hf1,hf2,hf3]
    exact ⟨_, rfl, x1⟩
  | ok a1 j1 =>
    rw [hX1] at ho; rw [Ds] at ho ⊢
    rintro _ ⟨_, S1, rfl, rfl, x1, c1, hi1⟩
    have hp1 : p < S1.next := Nat.lt_of_lt_of_le hp x1.1
    have y2 := x1
    by_cases hm : (tk ts j1).text ∈ [[41]]
    · rw [if_pos hm] at ho ⊢
      simp only [A3,A6,Bb,Bc,Cr,Bn,B4,C9,Cu,B5,Cs,Ct,Da,Ci,Be,Bo,Bp,A2,A9,Ba,A5,De,B6,Bm,Bh,A8,A4,Bi,Bg,Bf,Bq,Br,B9,Ca,Bv,C0,Cz,C1,A0,A1,C2,Dd,ofOpt,ofOptS,Bw,Dh,Di,Cj,Cl,Bk,Bl,C4,Bj,Df,A7,Bd,Cm,Cn,Co,Cp,Cq,B3,B1,Nat.reduceLT,Nat.reduceAdd,Nat.reduceEqDiff,Aa,Ab,reduceIte,Ac,Ad,Ae,Af,Ag,Ah,Ai,Aj,Ak,Al,Am,Ao,Ap,Aq,Ar,Au,Av,Aw,Option.toList,Ay,Az,Tryz.f125,Cg,Ch,B7,B8,Do,Dp,fp0,Cb,C3,C8,C7,C6,C5,Dm,Dj,Dk,Cw,Ce,B0,Bt,Cf,Bz,By,Cc,Cd,Bs,Cv,Dq,Db,Dg,Cx,Cy,hf1,hf2,hf3]
      refine WC.mono (Hw c1 hp1 hi1 hts 1 0 [[41]] (by decide) (by decide) hm) ?_
      rintro _ ⟨S3, rfl, x3, c3, hi3, hp3⟩
      have y4 := (y2).trans x3
      obtain ⟨S5, q5, x5, c5, bt, hp5⟩ := Eu c3 hp3 (tk ts j1)
      have y6 := (y4).trans x5
      simp only [A3,A6,Bb,Bc,Cr,Bn,B4,C9,Cu,B5,Cs,Ct,Da,Ci,Be,Bo,Bp,A2,A9,Ba,A5,De,B6,Bm,Bh,A8,A4,Bi,Bg,Bf,Bq,Br,B9,Ca,Bv,C0,Cz,C1,A0,A1,C2,Dd,ofOpt,ofOptS,Bw,Dh,Di,Cj,Cl,Bk,Bl,C4,Bj,Df,A7,Bd,Cm,Cn,Co,Cp,Cq,B3,B1,Nat.reduceLT,Nat.reduceAdd,Nat.reduceEqDiff,Aa,Ab,reduceIte,Ac,Ad,Ae,Af,Ag,Ah,Ai,Aj,Ak,Al,Am,Ao,Ap,Aq,Ar,Au,Av,Aw,Option.toList,Ay,Az,Tryz.f125,Cg,Ch,B7,B8,Do,Dp,fp0,Cb,C3,C8,C7,C6,C5,Dm,Dj,Dk,Cw,Ce,B0,Bt,Cf,Bz,By,Cc,Cd,Bs,Cv,Dq,Db,Dg,Cx,Cy,hf1,hf2,hf3,q5]
      exact ⟨_, _, rfl, .inl ⟨rfl, rfl⟩, y6, c5, hi3⟩
    · rw [if_neg hm] at ho ⊢
      simp only [A3,A6,Bb,Bc,Cr,Bn,B4,C9,Cu,B5,Cs,Ct,Da,Ci,Be,Bo,Bp,A2,A9,Ba,A5,De,B6,Bm,Bh,A8,A4,Bi,Bg,Bf,Bq,Br,B9,Ca,Bv,C0,Cz,C1,A0,A1,C2,Dd,ofOpt,ofOptS,Bw,Dh,Di,Cj,Cl,Bk,Bl,C4,Bj,Df,A7,Bd,Cm,Cn,Co,Cp,Cq,B3,B1,Nat.reduceLT,Nat.reduceAdd,Nat.reduceEqDiff,Aa,Ab,reduceIte,Ac,Ad,Ae,Af,Ag,Ah,Ai,Aj,Ak,Al,Am,Ao,Ap,Aq,Ar,Au,Av,Aw,Option.toList,Ay,Az,Tryz.f125,Cg,Ch,B7,B8,Do,Dp,fp0,Cb,C3,C8,C7,C6,C5,Dm,Dj,Dk,Cw,Ce,B0,Bt,Cf,Bz,By,Cc,Cd,Bs,Cv,Dq,Db,Dg,Cx,Cy,hf1,hf2,hf3]
      refine WC.mono (Iv c1 hp1 hi1 hts 1 0 [[41]] (by decide) hm) ?_
      rintro _ ⟨S7, rfl, x7, c7, hi7, hp7⟩
      have y8 := (y2).trans x7
      obtain ⟨S9, q9, x9, c9, bt, hp9⟩ := Eu c7 hp7 Dx
      have y10 := (y8).trans x9
      simp only [A3,A6,Bb,Bc,Cr,Bn,B4,C9,Cu,B5,Cs,Ct,Da,Ci,Be,Bo,Bp,A2,A9,Ba,A5,De,B6,Bm,Bh,A8,A4,Bi,Bg,Bf,Bq,Br,B9,Ca,Bv,C0,Cz,C1,A0,A1,C2,Dd,ofOpt,ofOptS,Bw,Dh,Di,Cj,Cl,Bk,Bl,C4,Bj,Df,A7,Bd,Cm,Cn,Co,Cp,Cq,B3,B1,Nat.reduceLT,Nat.reduceAdd,Nat.reduceEqDiff,Aa,Ab,reduceIte,Ac,Ad,Ae,Af,Ag,Ah,Ai,Aj,Ak,Al,Am,Ao,Ap,Aq,Ar,Au,Av,Aw,Option.toList,Ay,Az,Tryz.f125,Cg,Ch,B7,B8,Do,Dp,fp0,Cb,C3,C8,C7,C6,C5,Dm,Dj,Dk,Cw,Ce,B0,Bt,Cf,Bz,By,Cc,Cd,Bs,Cv,Dq,Db,Dg,Cx,Cy,hf1,hf2,hf3,q9]
      refine WC.mono (iB hts h2p m kid hkn hF hkid n hn _ _ c9 hp9 hi7 ho) ?_
      cases hX11 : (kid j1).bind fun x m => H8 ts kid n [x] m with
      | out => exact absurd hX11 ho
      | bad a e =>
        rintro _ ⟨S11, rfl, x11⟩
        simp only [A3,A6,Bb,Bc,Cr,Bn,B4,C9,Cu,B5,Cs,Ct,Da,Ci,Be,Bo,Bp,A2,A9,Ba,A5,De,B6,Bm,Bh,A8,A4,Bi,Bg,Bf,Bq,Br,B9,Ca,Bv,C0,Cz,C1,A0,A1,C2,Dd,ofOpt,ofOptS,Bw,Dh,Di,Cj,Cl,Bk,Bl,C4,Bj,Df,A7,Bd,Cm,Cn,Co,Cp,Cq,B3,B1,Nat.reduceLT,Nat.reduceAdd,Nat.reduceEqDiff,Aa,Ab,reduceIte,Ac,Ad,Ae,Af,Ag,Ah,Ai,Aj,Ak,Al,Am,Ao,Ap,Aq,Ar,Au,Av,Aw,Option.toList,Ay,Az,Tryz.f125,Cg,Ch,B7,B8,Do,Dp,fp0,Cb,C3,C8,C7,C6,C5,Dm,Dj,Dk,Cw,Ce,B0,Bt,Cf,Bz,By,Cc,Cd,Bs,Cv,Dq,Db,Dg,Cx,Cy,hf1,hf2,hf3,q9]
        exact ⟨_, rfl, y10.trans x11⟩
      | ok a j =>
        rintro _ ⟨v, S11, rfl, hv, x11, c11, hi11⟩
        simp only [A3,A6,Bb,Bc,Cr,Bn,B4,C9,Cu,B5,Cs,Ct,Da,Ci,Be,Bo,Bp,A2,A9,Ba,A5,De,B6,Bm,Bh,A8,A4,Bi,Bg,Bf,Bq,Br,B9,Ca,Bv,C0,Cz,C1,A0,A1,C2,Dd,ofOpt,ofOptS,Bw,Dh,Di,Cj,Cl,Bk,Bl,C4,Bj,Df,A7,Bd,Cm,Cn,Co,Cp,Cq,B3,B1,Nat.reduceLT,Nat.reduceAdd,Nat.reduceEqDiff,Aa,Ab,reduceIte,Ac,Ad,Ae,Af,Ag,Ah,Ai,Aj,Ak,Al,Am,Ao,Ap,Aq,Ar,Au,Av,Aw,Option.toList,Ay,Az,Tryz.f125,Cg,Ch,B7,B8,Do,Dp,fp0,Cb,C3,C8,C7,C6,C5,Dm,Dj,Dk,Cw,Ce,B0,Bt,Cf,Bz,By,Cc,Cd,Bs,Cv,Dq,Db,Dg,Cx,Cy,hf1,hf2,hf3,q9]
        exact ⟨_, _, rfl, hv, y10.trans x11, c11, hi11⟩
set_option maxHeartbeats 16000000 in
theorem lefts_p (h2p : 2 ≤ p) (n : Nat) (hn : n ≤ 1000000) (S : St) (i : Nat) (h : Cur S p k ts i) (hp : p < S.next) (hi : i < ts.length) (ho : Oo ts n i ≠ .out) : WC E1 158 [.ptr p 0] S (Ku p k ts S (J1 2 Gc) (Oo ts n i)) := by
  have eP : Oo ts n i = if (tk ts i).kind = 1 then (Jl ts i).bind fun x j => .ok [x] j else (Ec ts [[40]] i).bind fun _ j => (Jl ts j).bind fun x j => (Ec ts [[44]] j).bind fun _ j => ((Jl ts j).bind fun y m => H8 ts (Jl ts) n [y] m).bind fun l m => .ok (x :: l) m := rfl
  rw [eP] at ho ⊢
  clear eP
  refine Ek Tryz.f158 (by kernel_rfl) (by kernel_rfl) (by kernel_rfl) (show (_ : Nat) ≤ _ from by show (_ : Nat) ≤ _; simp [Tryz.f158]) ?_
  obtain ⟨fn1, hf1⟩ := Ld
  obtain ⟨fn2, hf2⟩ := fS
  obtain ⟨fn3, hf3⟩ := J6
  obtain ⟨fn4, hf4⟩ := fR
  simp only [A3,A6,Bb,Bc,Cr,Bn,B4,C9,Cu,B5,Cs,Ct,Da,Ci,Be,Bo,Bp,A2,A9,Ba,A5,De,B6,Bm,Bh,A8,A4,Bi,Bg,Bf,Bq,Br,B9,Ca,Bv,C0,Cz,C1,A0,A1,C2,Dd,ofOpt,ofOptS,Bw,Dh,Di,Cj,Cl,Bk,Bl,C4,Bj,Df,A7,Bd,Cm,Cn,Co,Cp,Cq,B3,B1,Nat.reduceLT,Nat.reduceAdd,Nat.reduceEqDiff,Aa,Ab,reduceIte,Ac,Ad,Ae,Af,Ag,Ah,Ai,Aj,Ak,Al,Am,Ao,Ap,Aq,Ar,Au,Av,Aw,Option.toList,Ay,Az,Tryz.f158,Cg,Ch,B7,B8,Do,Dp,fp0,Cb,C3,C8,C7,C6,C5,Dm,Dj,Dk,Cw,Ce,B0,Bt,Cf,Bz,By,Cc,Cd,Bs,Cv,Dq,Db,Dg,Cx,Cy,hf1,hf2,hf3,hf4,Fy,Eh,Dy]
  refine WC.mono (Qs _ p k ts i h hp hi) ?_
  rintro _ ⟨S1, rfl, k1⟩
  have x1 := k1.x p
  have c1 := h.keep hp k1
  have hp1 : p < S1.next := Nat.lt_of_lt_of_le hp x1.1
  have y2 := x1
  have e0 := Iu hi
  by_cases h1 : (tk ts i).kind = 1
  · rw [if_pos h1] at ho ⊢
    have n1 : (((ts[i].kind : Nat) : Int) == 1) = true := by rw [← e0, h1]; rfl
    simp only [A3,A6,Bb,Bc,Cr,Bn,B4,C9,Cu,B5,Cs,Ct,Da,Ci,Be,Bo,Bp,A2,A9,Ba,A5,De,B6,Bm,Bh,A8,A4,Bi,Bg,Bf,Bq,Br,B9,Ca,Bv,C0,Cz,C1,A0,A1,C2,Dd,ofOpt,ofOptS,Bw,Dh,Di,Cj,Cl,Bk,Bl,C4,Bj,Df,A7,Bd,Cm,Cn,Co,Cp,Cq,B3,B1,Nat.reduceLT,Nat.reduceAdd,Nat.reduceEqDiff,Aa,Ab,reduceIte,Ac,Ad,Ae,Af,Ag,Ah,Ai,Aj,Ak,Al,Am,Ao,Ap,Aq,Ar,Au,Av,Aw,Option.toList,Ay,Az,Tryz.f158,Cg,Ch,B7,B8,Do,Dp,fp0,Cb,C3,C8,C7,C6,C5,Dm,Dj,Dk,Cw,Ce,B0,Bt,Cf,Bz,By,Cc,Cd,Bs,Cv,Dq,Db,Dg,Cx,Cy,hf1,hf2,hf3,hf4,Fy,Eh,Dy,n1]
    refine WC.mono (dC hts _ _ c1 hp1 hi) ?_
    cases hX3 : Jl ts i with
    | out => exact absurd hX3 (U9 _ _)
    | bad a e =>
      rintro _ ⟨S3, rfl, x3⟩
      simp only [A3,A6,Bb,Bc,Cr,Bn,B4,C9,Cu,B5,Cs,Ct,Da,Ci,Be,Bo,Bp,A2,A9,Ba,A5,De,B6,Bm,Bh,A8,A4,Bi,Bg,Bf,Bq,Br,B9,Ca,Bv,C0,Cz,C1,A0,A1,C2,Dd,ofOpt,ofOptS,Bw,Dh,Di,Cj,Cl,Bk,Bl,C4,Bj,Df,A7,Bd,Cm,Cn,Co,Cp,Cq,B3,B1,Nat.reduceLT,Nat.reduceAdd,Nat.reduceEqDiff,Aa,Ab,reduceIte,Ac,Ad,Ae,Af,Ag,Ah,Ai,Aj,Ak,Al,Am,Ao,Ap,Aq,Ar,Au,Av,Aw,Option.toList,Ay,Az,Tryz.f158,Cg,Ch,B7,B8,Do,Dp,fp0,Cb,C3,C8,C7,C6,C5,Dm,Dj,Dk,Cw,Ce,B0,Bt,Cf,Bz,By,Cc,Cd,Bs,Cv,Dq,Db,Dg,Cx,Cy,hf1,hf2,hf3,hf4,Fy,Eh,Dy,n1]
      exact ⟨_, rfl, y2.trans x3⟩
    | ok a3 j3 =>
      rintro _ ⟨_, S3, rfl, rfl, x3, c3, hi3⟩
      have hp3 : p < S3.next := Nat.lt_of_lt_of_le hp1 x3.1
      have y4 := (y2).trans x3
      rw [Ds]
      have hda : Gc a3 = .agg (Hq a3) := rfl
      have l5 := To (Hq a3) rfl
      simp only [A3,A6,Bb,Bc,Cr,Bn,B4,C9,Cu,B5,Cs,Ct,Da,Ci,Be,Bo,Bp,A2,A9,Ba,A5,De,B6,Bm,Bh,A8,A4,Bi,Bg,Bf,Bq,Br,B9,Ca,Bv,C0,Cz,C1,A0,A1,C2,Dd,ofOpt,ofOptS,Bw,Dh,Di,Cj,Cl,Bk,Bl,C4,Bj,Df,A7,Bd,Cm,Cn,Co,Cp,Cq,B3,B1,Nat.reduceLT,Nat.reduceAdd,Nat.reduceEqDiff,Aa,Ab,reduceIte,Ac,Ad,Ae,Af,Ag,Ah,Ai,Aj,Ak,Al,Am,Ao,Ap,Aq,Ar,Au,Av,Aw,Option.toList,Ay,Az,Tryz.f158,Cg,Ch,B7,B8,Do,Dp,fp0,Cb,C3,C8,C7,C6,C5,Dm,Dj,Dk,Cw,Ce,B0,Bt,Cf,Bz,By,Cc,Cd,Bs,Cv,Dq,Db,Dg,Cx,Cy,hf1,hf2,hf3,hf4,Fy,Eh,Dy,n1,hda,l5]
      exact ⟨_, _, rfl, .inr ⟨_, _, rfl⟩, y4, c3, hi3⟩
  · rw [if_neg h1] at ho ⊢
    have n1 : (((ts[i].kind : Nat) : Int) == 1) = false := by rw [← e0, beq_eq_false_iff_ne]; omega
    simp only [A3,A6,Bb,Bc,Cr,Bn,B4,C9,Cu,B5,Cs,Ct,Da,Ci,Be,Bo,Bp,A2,A9,Ba,A5,De,B6,Bm,Bh,A8,A4,Bi,Bg,Bf,Bq,Br,B9,Ca,Bv,C0,Cz,C1,A0,A1,C2,Dd,ofOpt,ofOptS,Bw,Dh,Di,Cj,Cl,Bk,Bl,C4,Bj,Df,A7,Bd,Cm,Cn,Co,Cp,Cq,B3,B1,Nat.reduceLT,Nat.reduceAdd,Nat.reduceEqDiff,Aa,Ab,reduceIte,Ac,Ad,Ae,Af,Ag,Ah,Ai,Aj,Ak,Al,Am,Ao,Ap,Aq,Ar,Au,Av,Aw,Option.toList,Ay,Az,Tryz.f158,Cg,Ch,B7,B8,Do,Dp,fp0,Cb,C3,C8,C7,C6,C5,Dm,Dj,Dk,Cw,Ce,B0,Bt,Cf,Bz,By,Cc,Cd,Bs,Cv,Dq,Db,Dg,Cx,Cy,hf1,hf2,hf3,hf4,Fy,Eh,Dy,n1]
    refine WC.mono (Ge c1 hp1 hi hts 1 0 [[40]] (by decide) (by decide)) ?_
    cases hX6 : Ec ts [[40]] i with
    | out => exact absurd hX6 (Fq _ _ _)
    | bad a e =>
      rintro _ ⟨S6, rfl, x6⟩
      simp only [A3,A6,Bb,Bc,Cr,Bn,B4,C9,Cu,B5,Cs,Ct,Da,Ci,Be,Bo,Bp,A2,A9,Ba,A5,De,B6,Bm,Bh,A8,A4,Bi,Bg,Bf,Bq,Br,B9,Ca,Bv,C0,Cz,C1,A0,A1,C2,Dd,ofOpt,ofOptS,Bw,Dh,Di,Cj,Cl,Bk,Bl,C4,Bj,Df,A7,Bd,Cm,Cn,Co,Cp,Cq,B3,B1,Nat.reduceLT,Nat.reduceAdd,Nat.reduceEqDiff,Aa,Ab,reduceIte,Ac,Ad,Ae,Af,Ag,Ah,Ai,Aj,Ak,Al,Am,Ao,Ap,Aq,Ar,Au,Av,Aw,Option.toList,Ay,Az,Tryz.f158,Cg,Ch,B7,B8,Do,Dp,fp0,Cb,C3,C8,C7,C6,C5,Dm,Dj,Dk,Cw,Ce,B0,Bt,Cf,Bz,By,Cc,Cd,Bs,Cv,Dq,Db,Dg,Cx,Cy,hf1,hf2,hf3,hf4,Fy,Eh,Dy,n1]
      exact ⟨_, rfl, y2.trans x6⟩
    | ok a6 j6 =>
      rw [hX6] at ho; rw [Ds] at ho ⊢
      rintro _ ⟨_, S6, rfl, rfl, x6, c6, hi6⟩
      have hp6 : p < S6.next := Nat.lt_of_lt_of_le hp1 x6.1
      have y7 := (y2).trans x6
      simp only [A3,A6,Bb,Bc,Cr,Bn,B4,C9,Cu,B5,Cs,Ct,Da,Ci,Be,Bo,Bp,A2,A9,Ba,A5,De,B6,Bm,Bh,A8,A4,Bi,Bg,Bf,Bq,Br,B9,Ca,Bv,C0,Cz,C1,A0,A1,C2,Dd,ofOpt,ofOptS,Bw,Dh,Di,Cj,Cl,Bk,Bl,C4,Bj,Df,A7,Bd,Cm,Cn,Co,Cp,Cq,B3,B1,Nat.reduceLT,Nat.reduceAdd,Nat.reduceEqDiff,Aa,Ab,reduceIte,Ac,Ad,Ae,Af,Ag,Ah,Ai,Aj,Ak,Al,Am,Ao,Ap,Aq,Ar,Au,Av,Aw,Option.toList,Ay,Az,Tryz.f158,Cg,Ch,B7,B8,Do,Dp,fp0,Cb,C3,C8,C7,C6,C5,Dm,Dj,Dk,Cw,Ce,B0,Bt,Cf,Bz,By,Cc,Cd,Bs,Cv,Dq,Db,Dg,Cx,Cy,hf1,hf2,hf3,hf4,Fy,Eh,Dy,n1]
      refine WC.mono (dC hts _ _ c6 hp6 hi6) ?_
      cases hX8 : Jl ts j6 with
      | out => exact absurd hX8 (U9 _ _)
      | bad a e =>
        rintro _ ⟨S8, rfl, x8⟩
        simp only [A3,A6,Bb,Bc,Cr,Bn,B4,C9,Cu,B5,Cs,Ct,Da,Ci,Be,Bo,Bp,A2,A9,Ba,A5,De,B6,Bm,Bh,A8,A4,Bi,Bg,Bf,Bq,Br,B9,Ca,Bv,C0,Cz,C1,A0,A1,C2,Dd,ofOpt,ofOptS,Bw,Dh,Di,Cj,Cl,Bk,Bl,C4,Bj,Df,A7,Bd,Cm,Cn,Co,Cp,Cq,B3,B1,Nat.reduceLT,Nat.reduceAdd,Nat.reduceEqDiff,Aa,Ab,reduceIte,Ac,Ad,Ae,Af,Ag,Ah,Ai,Aj,Ak,Al,Am,Ao,Ap,Aq,Ar,Au,Av,Aw,Option.toList,Ay,Az,Tryz.f158,Cg,Ch,B7,B8,Do,Dp,fp0,Cb,C3,C8,C7,C6,C5,Dm,Dj,Dk,Cw,Ce,B0,Bt,Cf,Bz,By,Cc,Cd,Bs,Cv,Dq,Db,Dg,Cx,Cy,hf1,hf2,hf3,hf4,Fy,Eh,Dy,n1]
        exact ⟨_, rfl, y7.trans x8⟩
      | ok a8 j8 =>
        rw [hX8] at ho; rw [Ds] at ho ⊢
        rintro _ ⟨_, S8, rfl, rfl, x8, c8, hi8⟩
        have hp8 : p < S8.next := Nat.lt_of_lt_of_le hp6 x8.1
        have y9 := (y7).trans x8
        have hda : Gc a8 = .agg (Hq a8) := rfl
        obtain ⟨S10, q10, x10, c10, bf, hp10⟩ := gN Zr bY rfl c8 hp8 (xs := Hq a8) rfl
        have y11 := (y9).trans x10
        simp only [A3,A6,Bb,Bc,Cr,Bn,B4,C9,Cu,B5,Cs,Ct,Da,Ci,Be,Bo,Bp,A2,A9,Ba,A5,De,B6,Bm,Bh,A8,A4,Bi,Bg,Bf,Bq,Br,B9,Ca,Bv,C0,Cz,C1,A0,A1,C2,Dd,ofOpt,ofOptS,Bw,Dh,Di,Cj,Cl,Bk,Bl,C4,Bj,Df,A7,Bd,Cm,Cn,Co,Cp,Cq,B3,B1,Nat.reduceLT,Nat.reduceAdd,Nat.reduceEqDiff,Aa,Ab,reduceIte,Ac,Ad,Ae,Af,Ag,Ah,Ai,Aj,Ak,Al,Am,Ao,Ap,Aq,Ar,Au,Av,Aw,Option.toList,Ay,Az,Tryz.f158,Cg,Ch,B7,B8,Do,Dp,fp0,Cb,C3,C8,C7,C6,C5,Dm,Dj,Dk,Cw,Ce,B0,Bt,Cf,Bz,By,Cc,Cd,Bs,Cv,Dq,Db,Dg,Cx,Cy,hf1,hf2,hf3,hf4,Fy,Eh,Dy,n1,hda,q10]
        refine WC.mono (Ge c10 hp10 hi8 hts 1 0 [[44]] (by decide) (by decide)) ?_
        cases hX12 : Ec ts [[44]] j8 with
        | out => exact absurd hX12 (Fq _ _ _)
        | bad a e =>
          rintro _ ⟨S12, rfl, x12⟩
          simp only [A3,A6,Bb,Bc,Cr,Bn,B4,C9,Cu,B5,Cs,Ct,Da,Ci,Be,Bo,Bp,A2,A9,Ba,A5,De,B6,Bm,Bh,A8,A4,Bi,Bg,Bf,Bq,Br,B9,Ca,Bv,C0,Cz,C1,A0,A1,C2,Dd,ofOpt,ofOptS,Bw,Dh,Di,Cj,Cl,Bk,Bl,C4,Bj,Df,A7,Bd,Cm,Cn,Co,Cp,Cq,B3,B1,Nat.reduceLT,Nat.reduceAdd,Nat.reduceEqDiff,Aa,Ab,reduceIte,Ac,Ad,Ae,Af,Ag,Ah,Ai,Aj,Ak,Al,Am,Ao,Ap,Aq,Ar,Au,Av,Aw,Option.toList,Ay,Az,Tryz.f158,Cg,Ch,B7,B8,Do,Dp,fp0,Cb,C3,C8,C7,C6,C5,Dm,Dj,Dk,Cw,Ce,B0,Bt,Cf,Bz,By,Cc,Cd,Bs,Cv,Dq,Db,Dg,Cx,Cy,hf1,hf2,hf3,hf4,Fy,Eh,Dy,n1,hda,q10]
          exact ⟨_, rfl, y11.trans x12⟩
        | ok a12 j12 =>
          rw [hX12] at ho; rw [Ds] at ho ⊢
          rintro _ ⟨_, S12, rfl, rfl, x12, c12, hi12⟩
          have hp12 : p < S12.next := Nat.lt_of_lt_of_le hp10 x12.1
          have y13 := (y11).trans x12
          have bf_13 := bf.keep x12
          have l14 := ldG ag59 Zr bf_13.get rfl
          have l15 := To (Hq a8) rfl
          simp only [A3,A6,Bb,Bc,Cr,Bn,B4,C9,Cu,B5,Cs,Ct,Da,Ci,Be,Bo,Bp,A2,A9,Ba,A5,De,B6,Bm,Bh,A8,A4,Bi,Bg,Bf,Bq,Br,B9,Ca,Bv,C0,Cz,C1,A0,A1,C2,Dd,ofOpt,ofOptS,Bw,Dh,Di,Cj,Cl,Bk,Bl,C4,Bj,Df,A7,Bd,Cm,Cn,Co,Cp,Cq,B3,B1,Nat.reduceLT,Nat.reduceAdd,Nat.reduceEqDiff,Aa,Ab,reduceIte,Ac,Ad,Ae,Af,Ag,Ah,Ai,Aj,Ak,Al,Am,Ao,Ap,Aq,Ar,Au,Av,Aw,Option.toList,Ay,Az,Tryz.f158,Cg,Ch,B7,B8,Do,Dp,fp0,Cb,C3,C8,C7,C6,C5,Dm,Dj,Dk,Cw,Ce,B0,Bt,Cf,Bz,By,Cc,Cd,Bs,Cv,Dq,Db,Dg,Cx,Cy,hf1,hf2,hf3,hf4,Fy,Eh,Dy,n1,hda,q10,l14,l15]
          refine K5 [(0, true), (1, true), (2, true), (3, true), (4, true), (5, true), (0, false), (6, true), (7, true)] (by kernel_rfl) (by kernel_rfl) ?_
          simp only [A3,A6,Bb,Bc,Cr,Bn,B4,C9,Cu,B5,Cs,Ct,Da,Ci,Be,Bo,Bp,A2,A9,Ba,A5,De,B6,Bm,Bh,A8,A4,Bi,Bg,Bf,Bq,Br,B9,Ca,Bv,C0,Cz,C1,A0,A1,C2,Dd,ofOpt,ofOptS,Bw,Dh,Di,Cj,Cl,Bk,Bl,C4,Bj,Df,A7,Bd,Cm,Cn,Co,Cp,Cq,B3,B1,Nat.reduceLT,Nat.reduceAdd,Nat.reduceEqDiff,Aa,Ab,reduceIte,Ac,Ad,Ae,Af,Ag,Ah,Ai,Aj,Ak,Al,Am,Ao,Ap,Aq,Ar,Au,Av,Aw,Option.toList,Ay,Az,Tryz.f158,Cg,Ch,B7,B8,Do,Dp,fp0,Cb,C3,C8,C7,C6,C5,Dm,Dj,Dk,Cw,Ce,B0,Bt,Cf,Bz,By,Cc,Cd,Bs,Cv,Dq,Db,Dg,Cx,Cy,hf1,hf2,hf3,hf4,Fy,Eh,Dy,n1,hda,q10,l14,l15]
          have hb2 := Fi ho
          refine WC.mono (iA hts h2p 180 _ (U9 ts) fS (dC hts) n hn _ _ c12 hp12 hi12 hb2) ?_
          cases hX : (Jl ts j12).bind fun y m => H8 ts (Jl ts) n [y] m with
          | out => exact absurd hX hb2
          | bad a e =>
            rintro _ ⟨S99, rfl, x99⟩
            simp only [A3,A6,Bb,Bc,Cr,Bn,B4,C9,Cu,B5,Cs,Ct,Da,Ci,Be,Bo,Bp,A2,A9,Ba,A5,De,B6,Bm,Bh,A8,A4,Bi,Bg,Bf,Bq,Br,B9,Ca,Bv,C0,Cz,C1,A0,A1,C2,Dd,ofOpt,ofOptS,Bw,Dh,Di,Cj,Cl,Bk,Bl,C4,Bj,Df,A7,Bd,Cm,Cn,Co,Cp,Cq,B3,B1,Nat.reduceLT,Nat.reduceAdd,Nat.reduceEqDiff,Aa,Ab,reduceIte,Ac,Ad,Ae,Af,Ag,Ah,Ai,Aj,Ak,Al,Am,Ao,Ap,Aq,Ar,Au,Av,Aw,Option.toList,Ay,Az,Tryz.f158,Cg,Ch,B7,B8,Do,Dp,fp0,Cb,C3,C8,C7,C6,C5,Dm,Dj,Dk,Cw,Ce,B0,Bt,Cf,Bz,By,Cc,Cd,Bs,Cv,Dq,Db,Dg,Cx,Cy,hf1,hf2,hf3,hf4,Fy,Eh,Dy,n1,hda,q10,l14,l15]
            exact ⟨_, rfl, y13.trans x99⟩
          | ok l j =>
            rw [Ds]
            rintro _ ⟨v, S99, rfl, hv, x99, c99, hi99⟩
            have hp99 : p < S99.next := Nat.lt_of_lt_of_le hp12 x99.1
            have y17 := (y13).trans x99
            have bf_17 := bf_13.keep x99
            have hlen : l.length ≤ 2000000 := by
              cases hk : Jl ts j12 with
              | out => rw [hk] at hX; cases hX
              | bad a e => rw [hk] at hX; cases hX
              | ok a m => rw [hk, Ds] at hX; have := Wv _ _ _ _ _ _ _ hX; simp at this; omega
            obtain ⟨S98, w98, ha98, hw98, x98, c98⟩ := app55r c99 hp99 a8 hv hlen
            rw [hda] at ha98
            have l18 := ldG ag59 Zr bf_17.get rfl
            have bq : Gt (.sl 1 0 2 [.agg (Hq a8)]) (.sl 1 0 2 [.agg (Hq a8)]) = true := by simp [Gt, Ly, Hq, D5, Dy, eqS, Io]
            have bq2 : Gt (.agg (Hq a8)) (.agg (Hq a8)) = true := by simp [Gt, Ly, Hq, D5, Dy, eqS, Io]
            simp only [A3,A6,Bb,Bc,Cr,Bn,B4,C9,Cu,B5,Cs,Ct,Da,Ci,Be,Bo,Bp,A2,A9,Ba,A5,De,B6,Bm,Bh,A8,A4,Bi,Bg,Bf,Bq,Br,B9,Ca,Bv,C0,Cz,C1,A0,A1,C2,Dd,ofOpt,ofOptS,Bw,Dh,Di,Cj,Cl,Bk,Bl,C4,Bj,Df,A7,Bd,Cm,Cn,Co,Cp,Cq,B3,B1,Nat.reduceLT,Nat.reduceAdd,Nat.reduceEqDiff,Aa,Ab,reduceIte,Ac,Ad,Ae,Af,Ag,Ah,Ai,Aj,Ak,Al,Am,Ao,Ap,Aq,Ar,Au,Av,Aw,Option.toList,Ay,Az,Tryz.f158,Cg,Ch,B7,B8,Do,Dp,fp0,Cb,C3,C8,C7,C6,C5,Dm,Dj,Dk,Cw,Ce,B0,Bt,Cf,Bz,By,Cc,Cd,Bs,Cv,Dq,Db,Dg,Cx,Cy,hf1,hf2,hf3,hf4,Fy,Eh,Dy,n1,hda,q10,l14,l15,l18,bq,bq2,ha98]
            exact ⟨_, _, rfl, hw98, y17.trans x98, c98, hi99⟩
omit hts
noncomputable def Mh : Code := match Tryz.f127.body with
  | some (.seq _ (.seq _ (.seq (.block _ (.loop c)) _))) => c
  | _ => .skip
def oV (p k : Nat) (ts : List Tk) (S0 : St) (x : PR (List PD)) (r : O) : Prop :=
  (∃ t' S' tok l i', r = .out (.exit 0) ⟨t', []⟩ S' ∧ t'.get 3 = some (.sl tok 0 6 (l.map Ga)) ∧ El p S0 S' ∧ Cur S' p k ts i' ∧ i' < ts.length ∧ p < S'.next ∧ x = .ok l i') ∨
  (∃ t' S' a e, r = .out (.pan (Q3 a e)) ⟨t', []⟩ S' ∧ El p S0 S' ∧ x = .bad a e)
include hts
set_option maxHeartbeats 16000000 in
theorem Wj (h2p : 2 ≤ p) (S0 : St) (hp0 : p < S0.next) : ∀ (n : Nat) (l : List PD) (i : Nat) (t : T AV) (S : St) (tok : Nat), N2 ts n l i ≠ .out → n + l.length ≤ 2000000 →
    t.get 0 = some (.ptr p 0) → t.get 3 = some (.sl tok 0 6 (l.map Ga)) → Cur S p k ts i → p < S.next → i < ts.length → O5 6 S0.next S tok (l.map Ga) → El p S0 S →
    WX E1 19 (.loop Mh) ⟨t, []⟩ S (oV p k ts S0 (N2 ts n l i))
  | 0, l, i, t, S, tok, ho, hnl, h0, h3, h, hp, hi, hr, hx => absurd rfl ho
  | n + 1, l, i, t, S, tok, ho, hnl, h0, h3, h, hp, hi, hr, hx => by
    refine Fc (Es ?_)
    obtain ⟨fn1, hf1⟩ := Ld
    obtain ⟨fn2, hf2⟩ := fY
    have eP : N2 ts (n + 1) l i = if (tk ts i).kind = 1 then (G3 ts i).bind fun d j => N2 ts n (l ++ [d]) j else .ok l i := rfl
    rw [eP] at ho ⊢
    clear eP
    have e0 := Iu hi
    simp only [A3,A6,Bb,Bc,Cr,Bn,B4,C9,Cu,B5,Cs,Ct,Da,Ci,Be,Bo,Bp,A2,A9,Ba,A5,De,B6,Bm,Bh,A8,A4,Bi,Bg,Bf,Bq,Br,B9,Ca,Bv,C0,Cz,C1,A0,A1,C2,Dd,ofOpt,ofOptS,Bw,Dh,Di,Cj,Cl,Bk,Bl,C4,Bj,Df,A7,Bd,Cm,Cn,Co,Cp,Cq,B3,B1,Nat.reduceLT,Nat.reduceAdd,Nat.reduceEqDiff,Aa,Ab,reduceIte,Ac,Ad,Ae,Af,Ag,Ah,Ai,Aj,Ak,Al,Am,Ao,Ap,Aq,Ar,Au,Av,Aw,Option.toList,Ay,Az,Tryz.f127,Cg,Ch,B7,B8,Do,Dp,fp0,Cb,C3,C8,C7,C6,C5,Dm,Dj,Dk,Cw,Ce,B0,Bt,Cf,Bz,By,Cc,Cd,Bs,Cv,Dq,Db,Dg,Cx,Cy,hf1,hf2,h0,h3,Mh,Eh,Dy]
    refine WC.mono (Qs _ p k ts i h hp hi) ?_
    rintro _ ⟨S1, rfl, k1⟩
    have x1 := k1.x p
    have c1 := h.keep hp k1
    have hp1 : p < S1.next := Nat.lt_of_lt_of_le hp x1.1
    have y2 := (hx).trans x1
    by_cases h1 : (tk ts i).kind = 1
    · rw [if_pos h1] at ho ⊢
      have n1 : (((ts[i].kind : Nat) : Int) == 1) = true := by rw [← e0, h1]; rfl
      simp only [A3,A6,Bb,Bc,Cr,Bn,B4,C9,Cu,B5,Cs,Ct,Da,Ci,Be,Bo,Bp,A2,A9,Ba,A5,De,B6,Bm,Bh,A8,A4,Bi,Bg,Bf,Bq,Br,B9,Ca,Bv,C0,Cz,C1,A0,A1,C2,Dd,ofOpt,ofOptS,Bw,Dh,Di,Cj,Cl,Bk,Bl,C4,Bj,Df,A7,Bd,Cm,Cn,Co,Cp,Cq,B3,B1,Nat.reduceLT,Nat.reduceAdd,Nat.reduceEqDiff,Aa,Ab,reduceIte,Ac,Ad,Ae,Af,Ag,Ah,Ai,Aj,Ak,Al,Am,Ao,Ap,Aq,Ar,Au,Av,Aw,Option.toList,Ay,Az,Tryz.f127,Cg,Ch,B7,B8,Do,Dp,fp0,Cb,C3,C8,C7,C6,C5,Dm,Dj,Dk,Cw,Ce,B0,Bt,Cf,Bz,By,Cc,Cd,Bs,Cv,Dq,Db,Dg,Cx,Cy,hf1,hf2,h0,h3,Mh,Eh,Dy,n1]
      refine WC.mono (Xq hts _ _ c1 hp1 hi) ?_
      cases hX3 : G3 ts i with
      | out => exact absurd hX3 (Td _ _)
      | bad a e =>
        rintro _ ⟨S3, rfl, x3⟩
        simp only [A3,A6,Bb,Bc,Cr,Bn,B4,C9,Cu,B5,Cs,Ct,Da,Ci,Be,Bo,Bp,A2,A9,Ba,A5,De,B6,Bm,Bh,A8,A4,Bi,Bg,Bf,Bq,Br,B9,Ca,Bv,C0,Cz,C1,A0,A1,C2,Dd,ofOpt,ofOptS,Bw,Dh,Di,Cj,Cl,Bk,Bl,C4,Bj,Df,A7,Bd,Cm,Cn,Co,Cp,Cq,B3,B1,Nat.reduceLT,Nat.reduceAdd,Nat.reduceEqDiff,Aa,Ab,reduceIte,Ac,Ad,Ae,Af,Ag,Ah,Ai,Aj,Ak,Al,Am,Ao,Ap,Aq,Ar,Au,Av,Aw,Option.toList,Ay,Az,Tryz.f127,Cg,Ch,B7,B8,Do,Dp,fp0,Cb,C3,C8,C7,C6,C5,Dm,Dj,Dk,Cw,Ce,B0,Bt,Cf,Bz,By,Cc,Cd,Bs,Cv,Dq,Db,Dg,Cx,Cy,hf1,hf2,h0,h3,Mh,Eh,Dy,n1]
        exact .inr ⟨_, _, _, _, rfl, y2.trans x3, rfl⟩
      | ok a3 j3 =>
        rw [hX3] at ho; rw [Ds] at ho ⊢
        rintro _ ⟨_, S3, rfl, rfl, x3, c3, hi3⟩
        have hp3 : p < S3.next := Nat.lt_of_lt_of_le hp1 x3.1
        have y4 := (y2).trans x3
        have hda : Ga a3 = .agg (Gp a3) := rfl
        have l5 := Tp (Gp a3) rfl
        have hr2 : O5 6 S0.next S3 tok (l.map Ga) := hr.keep ((x1).trans x3 : El p S S3) hp0
        have hle := y4.1
        obtain ⟨S6, a6, r6, n6, k6⟩ := lI hr2 (by omega) hle (Gp a3) rfl (by rw [List.length_map]; omega)
        have z6 : El p S0 S6 := ⟨Nat.le_trans hle n6, fun id hid hn => (k6 id hid).trans (y4.2 id hid hn)⟩
        have cc6 : Cur S6 p k ts j3 := (k6 p hp0).trans c3
        have em : l.map Ga ++ [AV.agg (Gp a3)] = (l ++ [a3]).map Ga := by rw [List.map_append]; rfl
        rw [em] at a6 r6
        simp only [A3,A6,Bb,Bc,Cr,Bn,B4,C9,Cu,B5,Cs,Ct,Da,Ci,Be,Bo,Bp,A2,A9,Ba,A5,De,B6,Bm,Bh,A8,A4,Bi,Bg,Bf,Bq,Br,B9,Ca,Bv,C0,Cz,C1,A0,A1,C2,Dd,ofOpt,ofOptS,Bw,Dh,Di,Cj,Cl,Bk,Bl,C4,Bj,Df,A7,Bd,Cm,Cn,Co,Cp,Cq,B3,B1,Nat.reduceLT,Nat.reduceAdd,Nat.reduceEqDiff,Aa,Ab,reduceIte,Ac,Ad,Ae,Af,Ag,Ah,Ai,Aj,Ak,Al,Am,Ao,Ap,Aq,Ar,Au,Av,Aw,Option.toList,Ay,Az,Tryz.f127,Cg,Ch,B7,B8,Do,Dp,fp0,Cb,C3,C8,C7,C6,C5,Dm,Dj,Dk,Cw,Ce,B0,Bt,Cf,Bz,By,Cc,Cd,Bs,Cv,Dq,Db,Dg,Cx,Cy,hf1,hf2,h0,h3,Mh,Eh,Dy,n1,hda,l5,a6]
        exact Wj h2p S0 hp0 n _ _ _ _ _ ho (by rw [List.length_append]; simp; omega) (by simp [T.get_set, h0]) (by simp [T.get_set]) cc6 (by omega) hi3 r6 z6
    · rw [if_neg h1] at ho ⊢
      have n1 : (((ts[i].kind : Nat) : Int) == 1) = false := by rw [← e0, beq_eq_false_iff_ne]; omega
      simp only [A3,A6,Bb,Bc,Cr,Bn,B4,C9,Cu,B5,Cs,Ct,Da,Ci,Be,Bo,Bp,A2,A9,Ba,A5,De,B6,Bm,Bh,A8,A4,Bi,Bg,Bf,Bq,Br,B9,Ca,Bv,C0,Cz,C1,A0,A1,C2,Dd,ofOpt,ofOptS,Bw,Dh,Di,Cj,Cl,Bk,Bl,C4,Bj,Df,A7,Bd,Cm,Cn,Co,Cp,Cq,B3,B1,Nat.reduceLT,Nat.reduceAdd,Nat.reduceEqDiff,Aa,Ab,reduceIte,Ac,Ad,Ae,Af,Ag,Ah,Ai,Aj,Ak,Al,Am,Ao,Ap,Aq,Ar,Au,Av,Aw,Option.toList,Ay,Az,Tryz.f127,Cg,Ch,B7,B8,Do,Dp,fp0,Cb,C3,C8,C7,C6,C5,Dm,Dj,Dk,Cw,Ce,B0,Bt,Cf,Bz,By,Cc,Cd,Bs,Cv,Dq,Db,Dg,Cx,Cy,hf1,hf2,h0,h3,Mh,Eh,Dy,n1]
      exact .inl ⟨_, _, tok, l, i, rfl, by simp [T.get_set, h3], y2, c1, hi, hp1, rfl⟩
set_option maxHeartbeats 16000000 in
theorem vars_p (h2p : 2 ≤ p) (n : Nat) (hn : n ≤ 1000000) (S : St) (i : Nat) (h : Cur S p k ts i) (hp : p < S.next) (hi : i < ts.length) (ho : ((G3 ts i).bind fun x j => N2 ts n [x] j) ≠ .out) : WC E1 127 [.ptr p 0] S (Ku p k ts S (J1 6 Ga) ((G3 ts i).bind fun x j => N2 ts n [x] j)) := by
  refine Ek Tryz.f127 (by kernel_rfl) (by kernel_rfl) (by kernel_rfl) (show (_ : Nat) ≤ _ from by show (_ : Nat) ≤ _; simp [Tryz.f127]) ?_
  obtain ⟨fn2, hf2⟩ := fY
  simp only [A3,A6,Bb,Bc,Cr,Bn,B4,C9,Cu,B5,Cs,Ct,Da,Ci,Be,Bo,Bp,A2,A9,Ba,A5,De,B6,Bm,Bh,A8,A4,Bi,Bg,Bf,Bq,Br,B9,Ca,Bv,C0,Cz,C1,A0,A1,C2,Dd,ofOpt,ofOptS,Bw,Dh,Di,Cj,Cl,Bk,Bl,C4,Bj,Df,A7,Bd,Cm,Cn,Co,Cp,Cq,B3,B1,Nat.reduceLT,Nat.reduceAdd,Nat.reduceEqDiff,Aa,Ab,reduceIte,Ac,Ad,Ae,Af,Ag,Ah,Ai,Aj,Ak,Al,Am,Ao,Ap,Aq,Ar,Au,Av,Aw,Option.toList,Ay,Az,Tryz.f127,Cg,Ch,B7,B8,Do,Dp,fp0,Cb,C3,C8,C7,C6,C5,Dm,Dj,Dk,Cw,Ce,B0,Bt,Cf,Bz,By,Cc,Cd,Bs,Cv,Dq,Db,Dg,Cx,Cy,hf2]
  refine WC.mono (Xq hts _ _ h hp hi) ?_
  cases hX1 : G3 ts i with
  | out => exact absurd hX1 (Td _ _)
  | bad a e =>
    rintro _ ⟨S1, rfl, x1⟩
    simp only [A3,A6,Bb,Bc,Cr,Bn,B4,C9,Cu,B5,Cs,Ct,Da,Ci,Be,Bo,Bp,A2,A9,Ba,A5,De,B6,Bm,Bh,A8,A4,Bi,Bg,Bf,Bq,Br,B9,Ca,Bv,C0,Cz,C1,A0,A1,C2,Dd,ofOpt,ofOptS,Bw,Dh,Di,Cj,Cl,Bk,Bl,C4,Bj,Df,A7,Bd,Cm,Cn,Co,Cp,Cq,B3,B1,Nat.reduceLT,Nat.reduceAdd,Nat.reduceEqDiff,Aa,Ab,reduceIte,Ac,Ad,Ae,Af,Ag,Ah,Ai,Aj,Ak,Al,Am,Ao,Ap,Aq,Ar,Au,Av,Aw,Option.toList,Ay,Az,Tryz.f127,Cg,Ch,B7,B8,Do,Dp,fp0,Cb,C3,C8,C7,C6,C5,Dm,Dj,Dk,Cw,Ce,B0,Bt,Cf,Bz,By,Cc,Cd,Bs,Cv,Dq,Db,Dg,Cx,Cy,hf2]
    exact ⟨_, rfl, x1⟩
  | ok a1 j1 =>
    rw [hX1] at ho; rw [Ds] at ho ⊢
    rintro _ ⟨_, S1, rfl, rfl, x1, c1, hi1⟩
    have hp1 : p < S1.next := Nat.lt_of_lt_of_le hp x1.1
    have y2 := x1
    have hda : Ga a1 = .agg (Gp a1) := rfl
    have l3 := Tp (Gp a1) rfl
    simp only [A3,A6,Bb,Bc,Cr,Bn,B4,C9,Cu,B5,Cs,Ct,Da,Ci,Be,Bo,Bp,A2,A9,Ba,A5,De,B6,Bm,Bh,A8,A4,Bi,Bg,Bf,Bq,Br,B9,Ca,Bv,C0,Cz,C1,A0,A1,C2,Dd,ofOpt,ofOptS,Bw,Dh,Di,Cj,Cl,Bk,Bl,C4,Bj,Df,A7,Bd,Cm,Cn,Co,Cp,Cq,B3,B1,Nat.reduceLT,Nat.reduceAdd,Nat.reduceEqDiff,Aa,Ab,reduceIte,Ac,Ad,Ae,Af,Ag,Ah,Ai,Aj,Ak,Al,Am,Ao,Ap,Aq,Ar,Au,Av,Aw,Option.toList,Ay,Az,Tryz.f127,Cg,Ch,B7,B8,Do,Dp,fp0,Cb,C3,C8,C7,C6,C5,Dm,Dj,Dk,Cw,Ce,B0,Bt,Cf,Bz,By,Cc,Cd,Bs,Cv,Dq,Db,Dg,Cx,Cy,hf2,hda,l3]
    refine WX.mono (Wj hts h2p S hp n [a1] j1 _ _ 1 ho (by simp; omega) (by simp [T.get_set]) (by simp [T.get_set, hda]) c1 hp1 hi1 (.inl rfl) y2) ?_
    rintro _ (⟨t9, S9, tok9, l9, i9, rfl, g3, x9, c9, hi9, hp9, e9⟩ | ⟨t9, S9, a9, e9, rfl, x9, q9⟩)
    · rw [e9]
      simp only [A3,A6,Bb,Bc,Cr,Bn,B4,C9,Cu,B5,Cs,Ct,Da,Ci,Be,Bo,Bp,A2,A9,Ba,A5,De,B6,Bm,Bh,A8,A4,Bi,Bg,Bf,Bq,Br,B9,Ca,Bv,C0,Cz,C1,A0,A1,C2,Dd,ofOpt,ofOptS,Bw,Dh,Di,Cj,Cl,Bk,Bl,C4,Bj,Df,A7,Bd,Cm,Cn,Co,Cp,Cq,B3,B1,Nat.reduceLT,Nat.reduceAdd,Nat.reduceEqDiff,Aa,Ab,reduceIte,Ac,Ad,Ae,Af,Ag,Ah,Ai,Aj,Ak,Al,Am,Ao,Ap,Aq,Ar,Au,Av,Aw,Option.toList,Ay,Az,Tryz.f127,Cg,Ch,B7,B8,Do,Dp,fp0,Cb,C3,C8,C7,C6,C5,Dm,Dj,Dk,Cw,Ce,B0,Bt,Cf,Bz,By,Cc,Cd,Bs,Cv,Dq,Db,Dg,Cx,Cy,hf2,g3]
      exact ⟨_, _, rfl, .inr ⟨_, _, rfl⟩, x9, c9, hi9⟩
    · rw [q9]
      simp only [A3,A6,Bb,Bc,Cr,Bn,B4,C9,Cu,B5,Cs,Ct,Da,Ci,Be,Bo,Bp,A2,A9,Ba,A5,De,B6,Bm,Bh,A8,A4,Bi,Bg,Bf,Bq,Br,B9,Ca,Bv,C0,Cz,C1,A0,A1,C2,Dd,ofOpt,ofOptS,Bw,Dh,Di,Cj,Cl,Bk,Bl,C4,Bj,Df,A7,Bd,Cm,Cn,Co,Cp,Cq,B3,B1,Nat.reduceLT,Nat.reduceAdd,Nat.reduceEqDiff,Aa,Ab,reduceIte,Ac,Ad,Ae,Af,Ag,Ah,Ai,Aj,Ak,Al,Am,Ao,Ap,Aq,Ar,Au,Av,Aw,Option.toList,Ay,Az,Tryz.f127,Cg,Ch,B7,B8,Do,Dp,fp0,Cb,C3,C8,C7,C6,C5,Dm,Dj,Dk,Cw,Ce,B0,Bt,Cf,Bz,By,Cc,Cd,Bs,Cv,Dq,Db,Dg,Cx,Cy,hf2]
      exact ⟨_, rfl, x9⟩
end
end Go.Ax
