/-
  What the parser Lo: a function of tokens; its calls one by one.
-/
import Derived.Test.YtjgknelmjdallaaGreatDoorPlPd
noncomputable section
namespace Go.Ax
open Go.RowKit Go.Proofs
set_option linter.unusedVariables false
set_option linter.unusedSimpArgs false
set_option maxRecDepth 100000

inductive NT where
  | expr | arrow | or | and | not | sum | term | unary | when | primary | name | call | brk | lit
def K7 (ts : List Tk) (ws : List (List UInt8)) (kid : Nat → PR PE) : Nat → PE → Nat → PR PE
  | 0, _, _ => .out
  | n + 1, x, i => if (tk ts i).text ∈ ws then (kid (i + 1)).bind fun y j => K7 ts ws kid n (.mk 6 (tk ts i).pos 0 (tk ts i).text false [x, y]) j else .ok x i
def N1 (ts : List Tk) : Nat → PE → Nat → PR PE
  | 0, _, _ => .out
  | n + 1, x, i => if (tk ts i).text ∈ [[119, 104, 101, 110]] then (Ky ts (i + 1)).bind fun c j => N1 ts n (.mk 11 (tk ts i).pos 0 c.1 c.2 [x]) j else .ok x i
def H5 (ts : List Tk) (kid : Nat → PR PE) : Nat → List PE → Nat → PR (List PE)
  | 0, _, _ => .out
  | n + 1, l, i => if (tk ts i).text ∈ [[44]] then (kid (i + 1)).bind fun y j => H5 ts kid n (l ++ [y]) j else (Ec ts [[41]] i).bind fun _ j => .ok l j
def Pn (ts : List Tk) (kid : Nat → PR PE) (n i : Nat) : PR (List PE) := (Ec ts [[40]] i).bind fun _ j => if (tk ts j).text ∈ [[41]] then .ok [] (j + 1) else (kid j).bind fun x m => H5 ts kid n [x] m
def O2 (ts : List Tk) (i : Nat) : Bool := decide ((tk ts i).text = [45]) && (decide ((tk ts (i + 1)).kind = 2) && !decide ((tk ts (i + 2)).text = [119, 104, 101, 110]))
def P (ts : List Tk) : Nat → NT → Nat → PR PE
  | 0, _, _ => .out
  | n + 1, .expr, i => if (tk ts i).text ∈ [[105, 102]] then (P ts n .expr (i + 1)).bind fun c j => (Ec ts [[116, 104, 101, 110]] j).bind fun _ j => (P ts n .expr j).bind fun y j => (Ec ts [[101, 108, 115, 101]] j).bind fun _ j => (P ts n .expr j).bind fun z j => .ok (.mk 7 (tk ts i).pos 0 [] false [c, y, z]) j
      else P ts n .arrow i
  | n + 1, .arrow, i => (P ts n .or i).bind fun x j => if (tk ts j).text ∈ [[45, 62]] then (P ts n .arrow (j + 1)).bind fun y m => .ok (.mk 8 (tk ts j).pos 0 [] false [x, y]) m
      else if Oz x = false then .ok x j
      else if (tk ts j).text ∈ [[102, 98, 121]] then (P ts n .arrow (j + 1)).bind fun y m => .ok (.mk 9 (tk ts j).pos 0 [] false [x, y]) m
      else .ok x j
  | n + 1, .or, i => (P ts n .and i).bind fun x j => K7 ts [[111, 114], [120, 111, 114]] (P ts n .and) n x j
  | n + 1, .and, i => (P ts n .not i).bind fun x j => K7 ts [[97, 110, 100]] (P ts n .not) n x j
  | n + 1, .not, i => if (tk ts i).text ∈ [[110, 111, 116]] then (P ts n .not (i + 1)).bind fun x j => .ok (.mk 5 (tk ts i).pos 0 [] false [x]) j
      else (P ts n .sum i).bind fun x j => if (tk ts j).text ∈ [[61], [60, 62], [60], [60, 61], [62], [62, 61]] then (P ts n .sum (j + 1)).bind fun y m => .ok (.mk 6 (tk ts j).pos 0 (tk ts j).text false [x, y]) m else .ok x j
  | n + 1, .sum, i => (P ts n .term i).bind fun x j => K7 ts [[43], [45]] (P ts n .term) n x j
  | n + 1, .term, i => (P ts n .unary i).bind fun x j => K7 ts [[42], [47], [109, 111, 100]] (P ts n .unary) n x j
  | n + 1, .unary, i => if (tk ts i).text ∈ [[112, 114, 101]] then (P ts n .unary (i + 1)).bind fun x j => .ok (.mk 10 (tk ts i).pos 0 [] false [x]) j
      else if O2 ts i = true then Oj ts i
      else if (tk ts i).text ∈ [[45]] then (P ts n .unary (i + 1)).bind fun x j => .ok (.mk 4 (tk ts i).pos 0 [] false [x]) j
      else P ts n .when i
  | n + 1, .when, i => (P ts n .primary i).bind fun x j => N1 ts n x j
  | n + 1, .primary, i => if (tk ts i).kind = 2 then Oj ts i
      else if (tk ts i).kind = 1 then P ts n .name i
      else if (tk ts i).text = [116, 114, 117, 101] ∨ (tk ts i).text = [102, 97, 108, 115, 101] then .ok (Pw (tk ts i)) (i + 1)
      else if (tk ts i).text = [109, 101, 114, 103, 101] then (F4 ts 1 (i + 1)).bind fun t j => (P ts n .brk j).bind fun x j => (P ts n .brk j).bind fun y j => .ok (.mk 12 (tk ts i).pos 0 t.text false [x, y]) j
      else if (tk ts i).text = [97, 119, 97, 105, 116] then (F4 ts 1 (i + 1)).bind fun t j => if (tk ts j).text ∈ [[97, 102, 116, 101, 114]] then (Ec ts [[40]] (j + 1)).bind fun _ j => (P ts n .lit j).bind fun x m => (H5 ts (P ts n .lit) n [x] m).bind fun l m => .ok (.mk 14 (tk ts i).pos 0 t.text false l) m else .ok (.mk 14 (tk ts i).pos 0 t.text false []) j
      else P ts n .brk i
  | n + 1, .name, i => if (tk ts (i + 1)).text = [40] then P ts n .call i else (F4 ts 1 i).bind fun t j => .ok (.mk 3 t.pos 0 t.text false []) j
  | n + 1, .call, i => (F4 ts 1 i).bind fun t j => (Pn ts (P ts n .expr) n j).bind fun l m => .ok (.mk 13 t.pos 0 t.text false l) m
  | n + 1, .brk, i => (Ec ts [[40]] i).bind fun _ j => (P ts n .expr j).bind fun x j => (Ec ts [[41]] j).bind fun _ j => .ok x j
  | n + 1, .lit, i => if (tk ts i).text ∈ [[116, 114, 117, 101], [102, 97, 108, 115, 101]] then .ok (Pw (tk ts i)) (i + 1) else Oj ts i
def Con (p k : Nat) (ts : List Tk) (fid : Nat) (x : Nat → PR PE) : Prop := ∀ S i, Cur S p k ts i → p < S.next → i < ts.length → x i ≠ .out → WC E1 fid [.ptr p 0] S (Ku p k ts S RepE (x i))
theorem Vf : ∃ fn, E1.F 47 = some fn := Option.isSome_iff_exists.1 (by kernel_rfl)
theorem nB : ∃ fn, E1.F 80 = some fn := Option.isSome_iff_exists.1 (by kernel_rfl)
theorem fnOk116 : ∃ fn, E1.F 116 = some fn := Option.isSome_iff_exists.1 (by kernel_rfl)
theorem Y1 : ∃ fn, E1.F 212 = some fn := Option.isSome_iff_exists.1 (by kernel_rfl)
theorem fnOk201 : ∃ fn, E1.F 201 = some fn := Option.isSome_iff_exists.1 (by kernel_rfl)
theorem fU : ∃ fn, E1.F 175 = some fn := Option.isSome_iff_exists.1 (by kernel_rfl)
theorem fV : ∃ fn, E1.F 174 = some fn := Option.isSome_iff_exists.1 (by kernel_rfl)
section
variable {p k : Nat} {ts : List Tk} (hts : TokOk ts) (n : Nat)
include hts

set_option maxHeartbeats 16000000 in
theorem brk_p (ihexpr : Con p k ts 47 (P ts n .expr)) : Con p k ts 219 (P ts (n + 1) .brk) := fun S i h hp hi ho => by
  obtain ⟨fn1, hf1⟩ := J6
  obtain ⟨fn2, hf2⟩ := Vf
  refine Ek Tryz.f219 (by kernel_rfl) (by kernel_rfl) (by kernel_rfl) (show (_ : Nat) ≤ _ from by show (_ : Nat) ≤ _; simp [Tryz.f219]) ?_
  have eP : P ts (n + 1) .brk i = (Ec ts [[40]] i).bind fun _ j => (P ts n .expr j).bind fun x j => (Ec ts [[41]] j).bind fun _ j => .ok x j := rfl
  rw [eP] at ho ⊢
  clear eP
  obtain ⟨x1, c1, br, hp1⟩ := Hd h hp
  have y2 := x1
  simp only [A3,A6,Bb,Bc,Cr,Bn,B4,C9,Cu,B5,Cs,Ct,Da,Bu,Be,Bo,Bp,A2,A9,Ba,A5,Dc,B6,Bm,Bh,A8,A4,Bi,Bg,Bf,Bq,Br,B9,Ca,Bv,C0,Cz,C1,A0,A1,C2,Dd,ofOpt,ofOptS,Bw,Dh,Di,Cj,Cl,Bk,Bl,C4,Bj,Df,A7,Bd,Cm,Cn,Co,Cp,Cq,B3,B1,Nat.reduceLT,Nat.reduceAdd,Nat.reduceEqDiff,Aa,Ab,reduceIte,Ac,Ad,Ae,Af,Ag,Ah,Ai,Aj,Ak,Al,Am,Ao,Ap,Aq,Ar,Au,Av,Aw,Option.toList,Ay,Az,Tryz.f219,Cg,Ch,B7,B8,Do,Dp,fp0,Cb,C3,C8,C7,C6,C5,Dl,Dj,Dk,Cw,Ce,B0,Bt,Cf,Bz,By,Cc,Cd,Bs,Cv,Dq,Db,Dg,Cx,Cy,hf1,hf2]
  refine WC.mono (Ge c1 hp1 hi hts 1 0 [[40]] (by decide) (by decide)) ?_
  cases hX3 : Ec ts [[40]] i with
  | out => exact absurd hX3 (Fq _ _ _)
  | bad a e =>
    rintro _ ⟨S3, rfl, x3⟩
    simp only [A3,A6,Bb,Bc,Cr,Bn,B4,C9,Cu,B5,Cs,Ct,Da,Bu,Be,Bo,Bp,A2,A9,Ba,A5,Dc,B6,Bm,Bh,A8,A4,Bi,Bg,Bf,Bq,Br,B9,Ca,Bv,C0,Cz,C1,A0,A1,C2,Dd,ofOpt,ofOptS,Bw,Dh,Di,Cj,Cl,Bk,Bl,C4,Bj,Df,A7,Bd,Cm,Cn,Co,Cp,Cq,B3,B1,Nat.reduceLT,Nat.reduceAdd,Nat.reduceEqDiff,Aa,Ab,reduceIte,Ac,Ad,Ae,Af,Ag,Ah,Ai,Aj,Ak,Al,Am,Ao,Ap,Aq,Ar,Au,Av,Aw,Option.toList,Ay,Az,Tryz.f219,Cg,Ch,B7,B8,Do,Dp,fp0,Cb,C3,C8,C7,C6,C5,Dl,Dj,Dk,Cw,Ce,B0,Bt,Cf,Bz,By,Cc,Cd,Bs,Cv,Dq,Db,Dg,Cx,Cy,hf1,hf2]
    exact ⟨_, rfl, y2.trans x3⟩
  | ok a3 j3 =>
    rw [hX3] at ho; rw [Ds] at ho ⊢
    rintro _ ⟨_, S3, rfl, rfl, x3, c3, hi3⟩
    have hp3 : p < S3.next := Nat.lt_of_lt_of_le hp1 x3.1
    have y4 := (y2).trans x3
    have br_4 := br.keep x3
    have ne5 := Fi ho
    simp only [A3,A6,Bb,Bc,Cr,Bn,B4,C9,Cu,B5,Cs,Ct,Da,Bu,Be,Bo,Bp,A2,A9,Ba,A5,Dc,B6,Bm,Bh,A8,A4,Bi,Bg,Bf,Bq,Br,B9,Ca,Bv,C0,Cz,C1,A0,A1,C2,Dd,ofOpt,ofOptS,Bw,Dh,Di,Cj,Cl,Bk,Bl,C4,Bj,Df,A7,Bd,Cm,Cn,Co,Cp,Cq,B3,B1,Nat.reduceLT,Nat.reduceAdd,Nat.reduceEqDiff,Aa,Ab,reduceIte,Ac,Ad,Ae,Af,Ag,Ah,Ai,Aj,Ak,Al,Am,Ao,Ap,Aq,Ar,Au,Av,Aw,Option.toList,Ay,Az,Tryz.f219,Cg,Ch,B7,B8,Do,Dp,fp0,Cb,C3,C8,C7,C6,C5,Dl,Dj,Dk,Cw,Ce,B0,Bt,Cf,Bz,By,Cc,Cd,Bs,Cv,Dq,Db,Dg,Cx,Cy,hf1,hf2]
    refine WC.mono (ihexpr _ _ c3 hp3 hi3 ne5) ?_
    cases hX6 : P ts n .expr j3 with
    | out => exact absurd hX6 ne5
    | bad a e =>
      rintro _ ⟨S6, rfl, x6⟩
      simp only [A3,A6,Bb,Bc,Cr,Bn,B4,C9,Cu,B5,Cs,Ct,Da,Bu,Be,Bo,Bp,A2,A9,Ba,A5,Dc,B6,Bm,Bh,A8,A4,Bi,Bg,Bf,Bq,Br,B9,Ca,Bv,C0,Cz,C1,A0,A1,C2,Dd,ofOpt,ofOptS,Bw,Dh,Di,Cj,Cl,Bk,Bl,C4,Bj,Df,A7,Bd,Cm,Cn,Co,Cp,Cq,B3,B1,Nat.reduceLT,Nat.reduceAdd,Nat.reduceEqDiff,Aa,Ab,reduceIte,Ac,Ad,Ae,Af,Ag,Ah,Ai,Aj,Ak,Al,Am,Ao,Ap,Aq,Ar,Au,Av,Aw,Option.toList,Ay,Az,Tryz.f219,Cg,Ch,B7,B8,Do,Dp,fp0,Cb,C3,C8,C7,C6,C5,Dl,Dj,Dk,Cw,Ce,B0,Bt,Cf,Bz,By,Cc,Cd,Bs,Cv,Dq,Db,Dg,Cx,Cy,hf1,hf2]
      exact ⟨_, rfl, y4.trans x6⟩
    | ok a6 j6 =>
      rw [hX6] at ho; rw [Ds] at ho ⊢
      rintro _ ⟨v6, S6, rfl, hr6, x6, c6, hi6⟩
      obtain ⟨xs6, rfl, hl6⟩ := RepE.agg hr6
      have rf6 := RepE.refl hr6
      have hp6 : p < S6.next := Nat.lt_of_lt_of_le hp3 x6.1
      have y7 := (y4).trans x6
      have br_7 := br_4.keep x6
      obtain ⟨S8, q8, x8, c8, bx, hp8⟩ := N7 c6 hp6 (xs := xs6) hl6
      have y9 := (y7).trans x8
      have br_9 := br_7.keep x8
      simp only [A3,A6,Bb,Bc,Cr,Bn,B4,C9,Cu,B5,Cs,Ct,Da,Bu,Be,Bo,Bp,A2,A9,Ba,A5,Dc,B6,Bm,Bh,A8,A4,Bi,Bg,Bf,Bq,Br,B9,Ca,Bv,C0,Cz,C1,A0,A1,C2,Dd,ofOpt,ofOptS,Bw,Dh,Di,Cj,Cl,Bk,Bl,C4,Bj,Df,A7,Bd,Cm,Cn,Co,Cp,Cq,B3,B1,Nat.reduceLT,Nat.reduceAdd,Nat.reduceEqDiff,Aa,Ab,reduceIte,Ac,Ad,Ae,Af,Ag,Ah,Ai,Aj,Ak,Al,Am,Ao,Ap,Aq,Ar,Au,Av,Aw,Option.toList,Ay,Az,Tryz.f219,Cg,Ch,B7,B8,Do,Dp,fp0,Cb,C3,C8,C7,C6,C5,Dl,Dj,Dk,Cw,Ce,B0,Bt,Cf,Bz,By,Cc,Cd,Bs,Cv,Dq,Db,Dg,Cx,Cy,hf1,hf2,rf6,q8]
      refine WC.mono (Ge c8 hp8 hi6 hts 1 0 [[41]] (by decide) (by decide)) ?_
      cases hX10 : Ec ts [[41]] j6 with
      | out => exact absurd hX10 (Fq _ _ _)
      | bad a e =>
        rintro _ ⟨S10, rfl, x10⟩
        simp only [A3,A6,Bb,Bc,Cr,Bn,B4,C9,Cu,B5,Cs,Ct,Da,Bu,Be,Bo,Bp,A2,A9,Ba,A5,Dc,B6,Bm,Bh,A8,A4,Bi,Bg,Bf,Bq,Br,B9,Ca,Bv,C0,Cz,C1,A0,A1,C2,Dd,ofOpt,ofOptS,Bw,Dh,Di,Cj,Cl,Bk,Bl,C4,Bj,Df,A7,Bd,Cm,Cn,Co,Cp,Cq,B3,B1,Nat.reduceLT,Nat.reduceAdd,Nat.reduceEqDiff,Aa,Ab,reduceIte,Ac,Ad,Ae,Af,Ag,Ah,Ai,Aj,Ak,Al,Am,Ao,Ap,Aq,Ar,Au,Av,Aw,Option.toList,Ay,Az,Tryz.f219,Cg,Ch,B7,B8,Do,Dp,fp0,Cb,C3,C8,C7,C6,C5,Dl,Dj,Dk,Cw,Ce,B0,Bt,Cf,Bz,By,Cc,Cd,Bs,Cv,Dq,Db,Dg,Cx,Cy,hf1,hf2,rf6,q8]
        exact ⟨_, rfl, y9.trans x10⟩
      | ok a10 j10 =>
        rw [hX10] at ho; rw [Ds] at ho ⊢
        rintro _ ⟨_, S10, rfl, rfl, x10, c10, hi10⟩
        have hp10 : p < S10.next := Nat.lt_of_lt_of_le hp8 x10.1
        have y11 := (y9).trans x10
        have br_11 := br_9.keep x10
        have bx_11 := bx.keep x10
        have l12 := bx_11.ld30 hl6
        obtain ⟨g13, h13, gx, gc⟩ := Ft (S0 := S) c10 br_11 rfl (Nat.le_refl _) y11 (xs := xs6) hl6
        simp only [A3,A6,Bb,Bc,Cr,Bn,B4,C9,Cu,B5,Cs,Ct,Da,Bu,Be,Bo,Bp,A2,A9,Ba,A5,Dc,B6,Bm,Bh,A8,A4,Bi,Bg,Bf,Bq,Br,B9,Ca,Bv,C0,Cz,C1,A0,A1,C2,Dd,ofOpt,ofOptS,Bw,Dh,Di,Cj,Cl,Bk,Bl,C4,Bj,Df,A7,Bd,Cm,Cn,Co,Cp,Cq,B3,B1,Nat.reduceLT,Nat.reduceAdd,Nat.reduceEqDiff,Aa,Ab,reduceIte,Ac,Ad,Ae,Af,Ag,Ah,Ai,Aj,Ak,Al,Am,Ao,Ap,Aq,Ar,Au,Av,Aw,Option.toList,Ay,Az,Tryz.f219,Cg,Ch,B7,B8,Do,Dp,fp0,Cb,C3,C8,C7,C6,C5,Dl,Dj,Dk,Cw,Ce,B0,Bt,Cf,Bz,By,Cc,Cd,Bs,Cv,Dq,Db,Dg,Cx,Cy,hf1,hf2,rf6,q8,l12,g13,h13]
        exact ⟨_, _, rfl, hr6, gx, gc, hi10⟩
set_option maxHeartbeats 16000000 in
theorem expr_p (ihexpr : Con p k ts 47 (P ts n .expr)) (iharrow : Con p k ts 80 (P ts n .arrow)) : Con p k ts 47 (P ts (n + 1) .expr) := fun S i h hp hi ho => by
  obtain ⟨fn1, hf1⟩ := Hn
  obtain ⟨fn2, hf2⟩ := nB
  obtain ⟨fn3, hf3⟩ := Vf
  obtain ⟨fn4, hf4⟩ := J6
  obtain ⟨fn5, hf5⟩ := Ot
  refine Ek Tryz.f47 (by kernel_rfl) (by kernel_rfl) (by kernel_rfl) (show (_ : Nat) ≤ _ from by show (_ : Nat) ≤ _; simp [Tryz.f47]) ?_
  have eP : P ts (n + 1) .expr i = if (tk ts i).text ∈ [[105, 102]] then (P ts n .expr (i + 1)).bind fun c j => (Ec ts [[116, 104, 101, 110]] j).bind fun _ j => (P ts n .expr j).bind fun y j => (Ec ts [[101, 108, 115, 101]] j).bind fun _ j => (P ts n .expr j).bind fun z j => .ok (.mk 7 (tk ts i).pos 0 [] false [c, y, z]) j else P ts n .arrow i := rfl
  rw [eP] at ho ⊢
  clear eP
  obtain ⟨x1, c1, br, hp1⟩ := Hd h hp
  have y2 := x1
  by_cases hm : (tk ts i).text ∈ [[105, 102]]
  · rw [if_pos hm] at ho ⊢
    simp only [A3,A6,Bb,Bc,Cr,Bn,B4,C9,Cu,B5,Cs,Ct,Da,Bu,Be,Bo,Bp,A2,A9,Ba,A5,Dc,B6,Bm,Bh,A8,A4,Bi,Bg,Bf,Bq,Br,B9,Ca,Bv,C0,Cz,C1,A0,A1,C2,Dd,ofOpt,ofOptS,Bw,Dh,Di,Cj,Cl,Bk,Bl,C4,Bj,Df,A7,Bd,Cm,Cn,Co,Cp,Cq,B3,B1,Nat.reduceLT,Nat.reduceAdd,Nat.reduceEqDiff,Aa,Ab,reduceIte,Ac,Ad,Ae,Af,Ag,Ah,Ai,Aj,Ak,Al,Am,Ao,Ap,Aq,Ar,Au,Av,Aw,Option.toList,Ay,Az,Tryz.f47,Cg,Ch,B7,B8,Do,Dp,fp0,Cb,C3,C8,C7,C6,C5,Dl,Dj,Dk,Cw,Ce,B0,Bt,Cf,Bz,By,Cc,Cd,Bs,Cv,Dq,Db,Dg,Cx,Cy,hf1,hf2,hf3,hf4,hf5]
    refine WC.mono (Hw c1 hp1 hi hts 1 0 [[105, 102]] (by decide) (by decide) hm) ?_
    rintro _ ⟨S3, rfl, x3, c3, hi3, hp3⟩
    have y4 := (y2).trans x3
    have br_4 := br.keep x3
    obtain ⟨S5, q5, x5, c5, bt, hp5⟩ := Eu c3 hp3 (tk ts i)
    have y6 := (y4).trans x5
    have br_6 := br_4.keep x5
    have ne7 := Fi ho
    simp only [A3,A6,Bb,Bc,Cr,Bn,B4,C9,Cu,B5,Cs,Ct,Da,Bu,Be,Bo,Bp,A2,A9,Ba,A5,Dc,B6,Bm,Bh,A8,A4,Bi,Bg,Bf,Bq,Br,B9,Ca,Bv,C0,Cz,C1,A0,A1,C2,Dd,ofOpt,ofOptS,Bw,Dh,Di,Cj,Cl,Bk,Bl,C4,Bj,Df,A7,Bd,Cm,Cn,Co,Cp,Cq,B3,B1,Nat.reduceLT,Nat.reduceAdd,Nat.reduceEqDiff,Aa,Ab,reduceIte,Ac,Ad,Ae,Af,Ag,Ah,Ai,Aj,Ak,Al,Am,Ao,Ap,Aq,Ar,Au,Av,Aw,Option.toList,Ay,Az,Tryz.f47,Cg,Ch,B7,B8,Do,Dp,fp0,Cb,C3,C8,C7,C6,C5,Dl,Dj,Dk,Cw,Ce,B0,Bt,Cf,Bz,By,Cc,Cd,Bs,Cv,Dq,Db,Dg,Cx,Cy,hf1,hf2,hf3,hf4,hf5,q5]
    refine WC.mono (ihexpr _ _ c5 hp5 hi3 ne7) ?_
    cases hX8 : P ts n .expr (i + 1) with
    | out => exact absurd hX8 ne7
    | bad a e =>
      rintro _ ⟨S8, rfl, x8⟩
      simp only [A3,A6,Bb,Bc,Cr,Bn,B4,C9,Cu,B5,Cs,Ct,Da,Bu,Be,Bo,Bp,A2,A9,Ba,A5,Dc,B6,Bm,Bh,A8,A4,Bi,Bg,Bf,Bq,Br,B9,Ca,Bv,C0,Cz,C1,A0,A1,C2,Dd,ofOpt,ofOptS,Bw,Dh,Di,Cj,Cl,Bk,Bl,C4,Bj,Df,A7,Bd,Cm,Cn,Co,Cp,Cq,B3,B1,Nat.reduceLT,Nat.reduceAdd,Nat.reduceEqDiff,Aa,Ab,reduceIte,Ac,Ad,Ae,Af,Ag,Ah,Ai,Aj,Ak,Al,Am,Ao,Ap,Aq,Ar,Au,Av,Aw,Option.toList,Ay,Az,Tryz.f47,Cg,Ch,B7,B8,Do,Dp,fp0,Cb,C3,C8,C7,C6,C5,Dl,Dj,Dk,Cw,Ce,B0,Bt,Cf,Bz,By,Cc,Cd,Bs,Cv,Dq,Db,Dg,Cx,Cy,hf1,hf2,hf3,hf4,hf5,q5]
      exact ⟨_, rfl, y6.trans x8⟩
    | ok a8 j8 =>
      rw [hX8] at ho; rw [Ds] at ho ⊢
      rintro _ ⟨v8, S8, rfl, hr8, x8, c8, hi8⟩
      obtain ⟨xs8, rfl, hl8⟩ := RepE.agg hr8
      have rf8 := RepE.refl hr8
      have hp8 : p < S8.next := Nat.lt_of_lt_of_le hp5 x8.1
      have y9 := (y6).trans x8
      have br_9 := br_6.keep x8
      have bt_9 := bt.keep x8
      obtain ⟨S10, q10, x10, c10, bc, hp10⟩ := N7 c8 hp8 (xs := xs8) hl8
      have y11 := (y9).trans x10
      have br_11 := br_9.keep x10
      have bt_11 := bt_9.keep x10
      simp only [A3,A6,Bb,Bc,Cr,Bn,B4,C9,Cu,B5,Cs,Ct,Da,Bu,Be,Bo,Bp,A2,A9,Ba,A5,Dc,B6,Bm,Bh,A8,A4,Bi,Bg,Bf,Bq,Br,B9,Ca,Bv,C0,Cz,C1,A0,A1,C2,Dd,ofOpt,ofOptS,Bw,Dh,Di,Cj,Cl,Bk,Bl,C4,Bj,Df,A7,Bd,Cm,Cn,Co,Cp,Cq,B3,B1,Nat.reduceLT,Nat.reduceAdd,Nat.reduceEqDiff,Aa,Ab,reduceIte,Ac,Ad,Ae,Af,Ag,Ah,Ai,Aj,Ak,Al,Am,Ao,Ap,Aq,Ar,Au,Av,Aw,Option.toList,Ay,Az,Tryz.f47,Cg,Ch,B7,B8,Do,Dp,fp0,Cb,C3,C8,C7,C6,C5,Dl,Dj,Dk,Cw,Ce,B0,Bt,Cf,Bz,By,Cc,Cd,Bs,Cv,Dq,Db,Dg,Cx,Cy,hf1,hf2,hf3,hf4,hf5,q5,rf8,q10]
      refine WC.mono (Ge c10 hp10 hi8 hts 1 0 [[116, 104, 101, 110]] (by decide) (by decide)) ?_
      cases hX12 : Ec ts [[116, 104, 101, 110]] j8 with
      | out => exact absurd hX12 (Fq _ _ _)
      | bad a e =>
        rintro _ ⟨S12, rfl, x12⟩
        simp only [A3,A6,Bb,Bc,Cr,Bn,B4,C9,Cu,B5,Cs,Ct,Da,Bu,Be,Bo,Bp,A2,A9,Ba,A5,Dc,B6,Bm,Bh,A8,A4,Bi,Bg,Bf,Bq,Br,B9,Ca,Bv,C0,Cz,C1,A0,A1,C2,Dd,ofOpt,ofOptS,Bw,Dh,Di,Cj,Cl,Bk,Bl,C4,Bj,Df,A7,Bd,Cm,Cn,Co,Cp,Cq,B3,B1,Nat.reduceLT,Nat.reduceAdd,Nat.reduceEqDiff,Aa,Ab,reduceIte,Ac,Ad,Ae,Af,Ag,Ah,Ai,Aj,Ak,Al,Am,Ao,Ap,Aq,Ar,Au,Av,Aw,Option.toList,Ay,Az,Tryz.f47,Cg,Ch,B7,B8,Do,Dp,fp0,Cb,C3,C8,C7,C6,C5,Dl,Dj,Dk,Cw,Ce,B0,Bt,Cf,Bz,By,Cc,Cd,Bs,Cv,Dq,Db,Dg,Cx,Cy,hf1,hf2,hf3,hf4,hf5,q5,rf8,q10]
        exact ⟨_, rfl, y11.trans x12⟩
      | ok a12 j12 =>
        rw [hX12] at ho; rw [Ds] at ho ⊢
        rintro _ ⟨_, S12, rfl, rfl, x12, c12, hi12⟩
        have hp12 : p < S12.next := Nat.lt_of_lt_of_le hp10 x12.1
        have y13 := (y11).trans x12
        have br_13 := br_11.keep x12
        have bt_13 := bt_11.keep x12
        have bc_13 := bc.keep x12
        have ne14 := Fi ho
        simp only [A3,A6,Bb,Bc,Cr,Bn,B4,C9,Cu,B5,Cs,Ct,Da,Bu,Be,Bo,Bp,A2,A9,Ba,A5,Dc,B6,Bm,Bh,A8,A4,Bi,Bg,Bf,Bq,Br,B9,Ca,Bv,C0,Cz,C1,A0,A1,C2,Dd,ofOpt,ofOptS,Bw,Dh,Di,Cj,Cl,Bk,Bl,C4,Bj,Df,A7,Bd,Cm,Cn,Co,Cp,Cq,B3,B1,Nat.reduceLT,Nat.reduceAdd,Nat.reduceEqDiff,Aa,Ab,reduceIte,Ac,Ad,Ae,Af,Ag,Ah,Ai,Aj,Ak,Al,Am,Ao,Ap,Aq,Ar,Au,Av,Aw,Option.toList,Ay,Az,Tryz.f47,Cg,Ch,B7,B8,Do,Dp,fp0,Cb,C3,C8,C7,C6,C5,Dl,Dj,Dk,Cw,Ce,B0,Bt,Cf,Bz,By,Cc,Cd,Bs,Cv,Dq,Db,Dg,Cx,Cy,hf1,hf2,hf3,hf4,hf5,q5,rf8,q10]
        refine WC.mono (ihexpr _ _ c12 hp12 hi12 ne14) ?_
        cases hX15 : P ts n .expr j12 with
        | out => exact absurd hX15 ne14
        | bad a e =>
          rintro _ ⟨S15, rfl, x15⟩
          simp only [A3,A6,Bb,Bc,Cr,Bn,B4,C9,Cu,B5,Cs,Ct,Da,Bu,Be,Bo,Bp,A2,A9,Ba,A5,Dc,B6,Bm,Bh,A8,A4,Bi,Bg,Bf,Bq,Br,B9,Ca,Bv,C0,Cz,C1,A0,A1,C2,Dd,ofOpt,ofOptS,Bw,Dh,Di,Cj,Cl,Bk,Bl,C4,Bj,Df,A7,Bd,Cm,Cn,Co,Cp,Cq,B3,B1,Nat.reduceLT,Nat.reduceAdd,Nat.reduceEqDiff,Aa,Ab,reduceIte,Ac,Ad,Ae,Af,Ag,Ah,Ai,Aj,Ak,Al,Am,Ao,Ap,Aq,Ar,Au,Av,Aw,Option.toList,Ay,Az,Tryz.f47,Cg,Ch,B7,B8,Do,Dp,fp0,Cb,C3,C8,C7,C6,C5,Dl,Dj,Dk,Cw,Ce,B0,Bt,Cf,Bz,By,Cc,Cd,Bs,Cv,Dq,Db,Dg,Cx,Cy,hf1,hf2,hf3,hf4,hf5,q5,rf8,q10]
          exact ⟨_, rfl, y13.trans x15⟩
        | ok a15 j15 =>
          rw [hX15] at ho; rw [Ds] at ho ⊢
          rintro _ ⟨v15, S15, rfl, hr15, x15, c15, hi15⟩
          obtain ⟨xs15, rfl, hl15⟩ := RepE.agg hr15
          have rf15 := RepE.refl hr15
          have hp15 : p < S15.next := Nat.lt_of_lt_of_le hp12 x15.1
          have y16 := (y13).trans x15
          have br_16 := br_13.keep x15
          have bt_16 := bt_13.keep x15
          have bc_16 := bc_13.keep x15
          obtain ⟨S17, q17, x17, c17, be, hp17⟩ := N7 c15 hp15 (xs := xs15) hl15
          have y18 := (y16).trans x17
          have br_18 := br_16.keep x17
          have bt_18 := bt_16.keep x17
          have bc_18 := bc_16.keep x17
          simp only [A3,A6,Bb,Bc,Cr,Bn,B4,C9,Cu,B5,Cs,Ct,Da,Bu,Be,Bo,Bp,A2,A9,Ba,A5,Dc,B6,Bm,Bh,A8,A4,Bi,Bg,Bf,Bq,Br,B9,Ca,Bv,C0,Cz,C1,A0,A1,C2,Dd,ofOpt,ofOptS,Bw,Dh,Di,Cj,Cl,Bk,Bl,C4,Bj,Df,A7,Bd,Cm,Cn,Co,Cp,Cq,B3,B1,Nat.reduceLT,Nat.reduceAdd,Nat.reduceEqDiff,Aa,Ab,reduceIte,Ac,Ad,Ae,Af,Ag,Ah,Ai,Aj,Ak,Al,Am,Ao,Ap,Aq,Ar,Au,Av,Aw,Option.toList,Ay,Az,Tryz.f47,Cg,Ch,B7,B8,Do,Dp,fp0,Cb,C3,C8,C7,C6,C5,Dl,Dj,Dk,Cw,Ce,B0,Bt,Cf,Bz,By,Cc,Cd,Bs,Cv,Dq,Db,Dg,Cx,Cy,hf1,hf2,hf3,hf4,hf5,q5,rf8,q10,rf15,q17]
          refine WC.mono (Ge c17 hp17 hi15 hts 1 0 [[101, 108, 115, 101]] (by decide) (by decide)) ?_
          cases hX19 : Ec ts [[101, 108, 115, 101]] j15 with
          | out => exact absurd hX19 (Fq _ _ _)
          | bad a e =>
            rintro _ ⟨S19, rfl, x19⟩
            simp only [A3,A6,Bb,Bc,Cr,Bn,B4,C9,Cu,B5,Cs,Ct,Da,Bu,Be,Bo,Bp,A2,A9,Ba,A5,Dc,B6,Bm,Bh,A8,A4,Bi,Bg,Bf,Bq,Br,B9,Ca,Bv,C0,Cz,C1,A0,A1,C2,Dd,ofOpt,ofOptS,Bw,Dh,Di,Cj,Cl,Bk,Bl,C4,Bj,Df,A7,Bd,Cm,Cn,Co,Cp,Cq,B3,B1,Nat.reduceLT,Nat.reduceAdd,Nat.reduceEqDiff,Aa,Ab,reduceIte,Ac,Ad,Ae,Af,Ag,Ah,Ai,Aj,Ak,Al,Am,Ao,Ap,Aq,Ar,Au,Av,Aw,Option.toList,Ay,Az,Tryz.f47,Cg,Ch,B7,B8,Do,Dp,fp0,Cb,C3,C8,C7,C6,C5,Dl,Dj,Dk,Cw,Ce,B0,Bt,Cf,Bz,By,Cc,Cd,Bs,Cv,Dq,Db,Dg,Cx,Cy,hf1,hf2,hf3,hf4,hf5,q5,rf8,q10,rf15,q17]
            exact ⟨_, rfl, y18.trans x19⟩
          | ok a19 j19 =>
            rw [hX19] at ho; rw [Ds] at ho ⊢
            rintro _ ⟨_, S19, rfl, rfl, x19, c19, hi19⟩
            have hp19 : p < S19.next := Nat.lt_of_lt_of_le hp17 x19.1
            have y20 := (y18).trans x19
            have br_20 := br_18.keep x19
            have bt_20 := bt_18.keep x19
            have bc_20 := bc_18.keep x19
            have be_20 := be.keep x19
            simp only [A3,A6,Bb,Bc,Cr,Bn,B4,C9,Cu,B5,Cs,Ct,Da,Bu,Be,Bo,Bp,A2,A9,Ba,A5,Dc,B6,Bm,Bh,A8,A4,Bi,Bg,Bf,Bq,Br,B9,Ca,Bv,C0,Cz,C1,A0,A1,C2,Dd,ofOpt,ofOptS,Bw,Dh,Di,Cj,Cl,Bk,Bl,C4,Bj,Df,A7,Bd,Cm,Cn,Co,Cp,Cq,B3,B1,Nat.reduceLT,Nat.reduceAdd,Nat.reduceEqDiff,Aa,Ab,reduceIte,Ac,Ad,Ae,Af,Ag,Ah,Ai,Aj,Ak,Al,Am,Ao,Ap,Aq,Ar,Au,Av,Aw,Option.toList,Ay,Az,Tryz.f47,Cg,Ch,B7,B8,Do,Dp,fp0,Cb,C3,C8,C7,C6,C5,Dl,Dj,Dk,Cw,Ce,B0,Bt,Cf,Bz,By,Cc,Cd,Bs,Cv,Dq,Db,Dg,Cx,Cy,hf1,hf2,hf3,hf4,hf5,q5,rf8,q10,rf15,q17]
            refine K5 [(0, true), (1, true), (2, true), (3, true), (4, true), (2, false), (1, false), (0, false), (5, true), (6, true), (7, true)] (by kernel_rfl) (by kernel_rfl) ?_
            have l21 := bt_20.ld68
            have l22 := bc_20.ld30 hl8
            have l23 := be_20.ld30 hl15
            have ne24 := Fi ho
            simp only [A3,A6,Bb,Bc,Cr,Bn,B4,C9,Cu,B5,Cs,Ct,Da,Bu,Be,Bo,Bp,A2,A9,Ba,A5,Dc,B6,Bm,Bh,A8,A4,Bi,Bg,Bf,Bq,Br,B9,Ca,Bv,C0,Cz,C1,A0,A1,C2,Dd,ofOpt,ofOptS,Bw,Dh,Di,Cj,Cl,Bk,Bl,C4,Bj,Df,A7,Bd,Cm,Cn,Co,Cp,Cq,B3,B1,Nat.reduceLT,Nat.reduceAdd,Nat.reduceEqDiff,Aa,Ab,reduceIte,Ac,Ad,Ae,Af,Ag,Ah,Ai,Aj,Ak,Al,Am,Ao,Ap,Aq,Ar,Au,Av,Aw,Option.toList,Ay,Az,Tryz.f47,Cg,Ch,B7,B8,Do,Dp,fp0,Cb,C3,C8,C7,C6,C5,Dl,Dj,Dk,Cw,Ce,B0,Bt,Cf,Bz,By,Cc,Cd,Bs,Cv,Dq,Db,Dg,Cx,Cy,hf1,hf2,hf3,hf4,hf5,q5,rf8,q10,rf15,q17,l21,l22,l23]
            refine WC.mono (ihexpr _ _ c19 hp19 hi19 ne24) ?_
            cases hX25 : P ts n .expr j19 with
            | out => exact absurd hX25 ne24
            | bad a e =>
              rintro _ ⟨S25, rfl, x25⟩
              simp only [A3,A6,Bb,Bc,Cr,Bn,B4,C9,Cu,B5,Cs,Ct,Da,Bu,Be,Bo,Bp,A2,A9,Ba,A5,Dc,B6,Bm,Bh,A8,A4,Bi,Bg,Bf,Bq,Br,B9,Ca,Bv,C0,Cz,C1,A0,A1,C2,Dd,ofOpt,ofOptS,Bw,Dh,Di,Cj,Cl,Bk,Bl,C4,Bj,Df,A7,Bd,Cm,Cn,Co,Cp,Cq,B3,B1,Nat.reduceLT,Nat.reduceAdd,Nat.reduceEqDiff,Aa,Ab,reduceIte,Ac,Ad,Ae,Af,Ag,Ah,Ai,Aj,Ak,Al,Am,Ao,Ap,Aq,Ar,Au,Av,Aw,Option.toList,Ay,Az,Tryz.f47,Cg,Ch,B7,B8,Do,Dp,fp0,Cb,C3,C8,C7,C6,C5,Dl,Dj,Dk,Cw,Ce,B0,Bt,Cf,Bz,By,Cc,Cd,Bs,Cv,Dq,Db,Dg,Cx,Cy,hf1,hf2,hf3,hf4,hf5,q5,rf8,q10,rf15,q17,l21,l22,l23]
              exact ⟨_, rfl, y20.trans x25⟩
            | ok a25 j25 =>
              rw [hX25] at ho; rw [Ds] at ho ⊢
              rintro _ ⟨v25, S25, rfl, hr25, x25, c25, hi25⟩
              obtain ⟨xs25, rfl, hl25⟩ := RepE.agg hr25
              have rf25 := RepE.refl hr25
              have hp25 : p < S25.next := Nat.lt_of_lt_of_le hp19 x25.1
              have y26 := (y20).trans x25
              have br_26 := br_20.keep x25
              have bt_26 := bt_20.keep x25
              have bc_26 := bc_20.keep x25
              have be_26 := be_20.keep x25
              have l27 := bt_26.ld68
              have l28 := bc_26.ld30 hl8
              have l29 := be_26.ld30 hl15
              have l30 := row28_3 xs8 xs15 xs25 hl8 hl15 hl25
              simp only [A3,A6,Bb,Bc,Cr,Bn,B4,C9,Cu,B5,Cs,Ct,Da,Bu,Be,Bo,Bp,A2,A9,Ba,A5,Dc,B6,Bm,Bh,A8,A4,Bi,Bg,Bf,Bq,Br,B9,Ca,Bv,C0,Cz,C1,A0,A1,C2,Dd,ofOpt,ofOptS,Bw,Dh,Di,Cj,Cl,Bk,Bl,C4,Bj,Df,A7,Bd,Cm,Cn,Co,Cp,Cq,B3,B1,Nat.reduceLT,Nat.reduceAdd,Nat.reduceEqDiff,Aa,Ab,reduceIte,Ac,Ad,Ae,Af,Ag,Ah,Ai,Aj,Ak,Al,Am,Ao,Ap,Aq,Ar,Au,Av,Aw,Option.toList,Ay,Az,Tryz.f47,Cg,Ch,B7,B8,Do,Dp,fp0,Cb,C3,C8,C7,C6,C5,Dl,Dj,Dk,Cw,Ce,B0,Bt,Cf,Bz,By,Cc,Cd,Bs,Cv,Dq,Db,Dg,Cx,Cy,hf1,hf2,hf3,hf4,hf5,q5,rf8,q10,rf15,q17,l21,l22,l23,rf25,l27,l28,l29,l30]
              refine WC.mono (Md _ 7 (tk ts i) (.sl 1 0 6 [.agg xs8, .agg xs15, .agg xs25]) (.inr ⟨_, _, _, rfl⟩)) ?_
              rintro _ ⟨S31, rfl, k31⟩
              have x31 := k31.x p
              have c31 := c25.keep hp25 k31
              have hp31 : p < S31.next := Nat.lt_of_lt_of_le hp25 x31.1
              have y32 := (y26).trans x31
              have br_32 := br_26.keep x31
              have bt_32 := bt_26.keep x31
              have bc_32 := bc_26.keep x31
              have be_32 := be_26.keep x31
              obtain ⟨g33, h33, gx, gc⟩ := Ft (S0 := S) c31 br_32 rfl (Nat.le_refl _) y32 (xs := (exC 7 (tk ts i).pos 0 [] false (.sl 1 0 6 [.agg xs8, .agg xs15, .agg xs25]))) rfl
              simp only [A3,A6,Bb,Bc,Cr,Bn,B4,C9,Cu,B5,Cs,Ct,Da,Bu,Be,Bo,Bp,A2,A9,Ba,A5,Dc,B6,Bm,Bh,A8,A4,Bi,Bg,Bf,Bq,Br,B9,Ca,Bv,C0,Cz,C1,A0,A1,C2,Dd,ofOpt,ofOptS,Bw,Dh,Di,Cj,Cl,Bk,Bl,C4,Bj,Df,A7,Bd,Cm,Cn,Co,Cp,Cq,B3,B1,Nat.reduceLT,Nat.reduceAdd,Nat.reduceEqDiff,Aa,Ab,reduceIte,Ac,Ad,Ae,Af,Ag,Ah,Ai,Aj,Ak,Al,Am,Ao,Ap,Aq,Ar,Au,Av,Aw,Option.toList,Ay,Az,Tryz.f47,Cg,Ch,B7,B8,Do,Dp,fp0,Cb,C3,C8,C7,C6,C5,Dl,Dj,Dk,Cw,Ce,B0,Bt,Cf,Bz,By,Cc,Cd,Bs,Cv,Dq,Db,Dg,Cx,Cy,hf1,hf2,hf3,hf4,hf5,q5,rf8,q10,rf15,q17,l21,l22,l23,rf25,l27,l28,l29,l30,g33,h33]
              exact ⟨_, _, rfl, (.mk 7 (tk ts i).pos 0 [] false _ _ (.row _ _ _ _ (.cons _ _ _ _ hr8 (.cons _ _ _ _ hr15 (.cons _ _ _ _ hr25 .nil))))), gx, gc, hi25⟩
  · rw [if_neg hm] at ho ⊢
    simp only [A3,A6,Bb,Bc,Cr,Bn,B4,C9,Cu,B5,Cs,Ct,Da,Bu,Be,Bo,Bp,A2,A9,Ba,A5,Dc,B6,Bm,Bh,A8,A4,Bi,Bg,Bf,Bq,Br,B9,Ca,Bv,C0,Cz,C1,A0,A1,C2,Dd,ofOpt,ofOptS,Bw,Dh,Di,Cj,Cl,Bk,Bl,C4,Bj,Df,A7,Bd,Cm,Cn,Co,Cp,Cq,B3,B1,Nat.reduceLT,Nat.reduceAdd,Nat.reduceEqDiff,Aa,Ab,reduceIte,Ac,Ad,Ae,Af,Ag,Ah,Ai,Aj,Ak,Al,Am,Ao,Ap,Aq,Ar,Au,Av,Aw,Option.toList,Ay,Az,Tryz.f47,Cg,Ch,B7,B8,Do,Dp,fp0,Cb,C3,C8,C7,C6,C5,Dl,Dj,Dk,Cw,Ce,B0,Bt,Cf,Bz,By,Cc,Cd,Bs,Cv,Dq,Db,Dg,Cx,Cy,hf1,hf2,hf3,hf4,hf5]
    refine WC.mono (Iv c1 hp1 hi hts 1 0 [[105, 102]] (by decide) hm) ?_
    rintro _ ⟨S34, rfl, x34, c34, hi34, hp34⟩
    have y35 := (y2).trans x34
    have br_35 := br.keep x34
    obtain ⟨S36, q36, x36, c36, bt, hp36⟩ := Eu c34 hp34 Dx
    have y37 := (y35).trans x36
    have br_37 := br_35.keep x36
    simp only [A3,A6,Bb,Bc,Cr,Bn,B4,C9,Cu,B5,Cs,Ct,Da,Bu,Be,Bo,Bp,A2,A9,Ba,A5,Dc,B6,Bm,Bh,A8,A4,Bi,Bg,Bf,Bq,Br,B9,Ca,Bv,C0,Cz,C1,A0,A1,C2,Dd,ofOpt,ofOptS,Bw,Dh,Di,Cj,Cl,Bk,Bl,C4,Bj,Df,A7,Bd,Cm,Cn,Co,Cp,Cq,B3,B1,Nat.reduceLT,Nat.reduceAdd,Nat.reduceEqDiff,Aa,Ab,reduceIte,Ac,Ad,Ae,Af,Ag,Ah,Ai,Aj,Ak,Al,Am,Ao,Ap,Aq,Ar,Au,Av,Aw,Option.toList,Ay,Az,Tryz.f47,Cg,Ch,B7,B8,Do,Dp,fp0,Cb,C3,C8,C7,C6,C5,Dl,Dj,Dk,Cw,Ce,B0,Bt,Cf,Bz,By,Cc,Cd,Bs,Cv,Dq,Db,Dg,Cx,Cy,hf1,hf2,hf3,hf4,hf5,q36]
    refine WC.mono (iharrow _ _ c36 hp36 hi34 ho) ?_
    cases hX38 : P ts n .arrow i with
    | out => exact absurd hX38 ho
    | bad a e =>
      rintro _ ⟨S38, rfl, x38⟩
      simp only [A3,A6,Bb,Bc,Cr,Bn,B4,C9,Cu,B5,Cs,Ct,Da,Bu,Be,Bo,Bp,A2,A9,Ba,A5,Dc,B6,Bm,Bh,A8,A4,Bi,Bg,Bf,Bq,Br,B9,Ca,Bv,C0,Cz,C1,A0,A1,C2,Dd,ofOpt,ofOptS,Bw,Dh,Di,Cj,Cl,Bk,Bl,C4,Bj,Df,A7,Bd,Cm,Cn,Co,Cp,Cq,B3,B1,Nat.reduceLT,Nat.reduceAdd,Nat.reduceEqDiff,Aa,Ab,reduceIte,Ac,Ad,Ae,Af,Ag,Ah,Ai,Aj,Ak,Al,Am,Ao,Ap,Aq,Ar,Au,Av,Aw,Option.toList,Ay,Az,Tryz.f47,Cg,Ch,B7,B8,Do,Dp,fp0,Cb,C3,C8,C7,C6,C5,Dl,Dj,Dk,Cw,Ce,B0,Bt,Cf,Bz,By,Cc,Cd,Bs,Cv,Dq,Db,Dg,Cx,Cy,hf1,hf2,hf3,hf4,hf5,q36]
      exact ⟨_, rfl, y37.trans x38⟩
    | ok a38 j38 =>
      rintro _ ⟨v38, S38, rfl, hr38, x38, c38, hi38⟩
      obtain ⟨xs38, rfl, hl38⟩ := RepE.agg hr38
      have hp38 : p < S38.next := Nat.lt_of_lt_of_le hp36 x38.1
      have y39 := (y37).trans x38
      have br_39 := br_37.keep x38
      have bt_39 := bt.keep x38
      obtain ⟨g40, h40, gx, gc⟩ := Ft (S0 := S) c38 br_39 rfl (Nat.le_refl _) y39 (xs := xs38) hl38
      simp only [A3,A6,Bb,Bc,Cr,Bn,B4,C9,Cu,B5,Cs,Ct,Da,Bu,Be,Bo,Bp,A2,A9,Ba,A5,Dc,B6,Bm,Bh,A8,A4,Bi,Bg,Bf,Bq,Br,B9,Ca,Bv,C0,Cz,C1,A0,A1,C2,Dd,ofOpt,ofOptS,Bw,Dh,Di,Cj,Cl,Bk,Bl,C4,Bj,Df,A7,Bd,Cm,Cn,Co,Cp,Cq,B3,B1,Nat.reduceLT,Nat.reduceAdd,Nat.reduceEqDiff,Aa,Ab,reduceIte,Ac,Ad,Ae,Af,Ag,Ah,Ai,Aj,Ak,Al,Am,Ao,Ap,Aq,Ar,Au,Av,Aw,Option.toList,Ay,Az,Tryz.f47,Cg,Ch,B7,B8,Do,Dp,fp0,Cb,C3,C8,C7,C6,C5,Dl,Dj,Dk,Cw,Ce,B0,Bt,Cf,Bz,By,Cc,Cd,Bs,Cv,Dq,Db,Dg,Cx,Cy,hf1,hf2,hf3,hf4,hf5,q36,g40,h40]
      exact ⟨_, _, rfl, hr38, gx, gc, hi38⟩
set_option maxHeartbeats 16000000 in
theorem arrow_p (iharrow : Con p k ts 80 (P ts n .arrow)) (ihor : Con p k ts 116 (P ts n .or)) : Con p k ts 80 (P ts (n + 1) .arrow) := fun S i h hp hi ho => by
  obtain ⟨fn1, hf1⟩ := Hn
  obtain ⟨fn2, hf2⟩ := nB
  obtain ⟨fn3, hf3⟩ := fnOk116
  obtain ⟨fn4, hf4⟩ := Ot
  obtain ⟨fn5, hf5⟩ := fnOk117
  refine Ek Tryz.f80 (by kernel_rfl) (by kernel_rfl) (by kernel_rfl) (show (_ : Nat) ≤ _ from by show (_ : Nat) ≤ _; simp [Tryz.f80]) ?_
  have eP : P ts (n + 1) .arrow i = (P ts n .or i).bind fun x j => if (tk ts j).text ∈ [[45, 62]] then (P ts n .arrow (j + 1)).bind fun y m => .ok (.mk 8 (tk ts j).pos 0 [] false [x, y]) m else if Oz x = false then .ok x j else if (tk ts j).text ∈ [[102, 98, 121]] then (P ts n .arrow (j + 1)).bind fun y m => .ok (.mk 9 (tk ts j).pos 0 [] false [x, y]) m else .ok x j := rfl
  rw [eP] at ho ⊢
  clear eP
  obtain ⟨x1, c1, br, hp1⟩ := Hd h hp
  have y2 := x1
  have ne3 := Fi ho
  simp only [A3,A6,Bb,Bc,Cr,Bn,B4,C9,Cu,B5,Cs,Ct,Da,Bu,Be,Bo,Bp,A2,A9,Ba,A5,Dc,B6,Bm,Bh,A8,A4,Bi,Bg,Bf,Bq,Br,B9,Ca,Bv,C0,Cz,C1,A0,A1,C2,Dd,ofOpt,ofOptS,Bw,Dh,Di,Cj,Cl,Bk,Bl,C4,Bj,Df,A7,Bd,Cm,Cn,Co,Cp,Cq,B3,B1,Nat.reduceLT,Nat.reduceAdd,Nat.reduceEqDiff,Aa,Ab,reduceIte,Ac,Ad,Ae,Af,Ag,Ah,Ai,Aj,Ak,Al,Am,Ao,Ap,Aq,Ar,Au,Av,Aw,Option.toList,Ay,Az,Tryz.f80,Cg,Ch,B7,B8,Do,Dp,fp0,Cb,C3,C8,C7,C6,C5,Dl,Dj,Dk,Cw,Ce,B0,Bt,Cf,Bz,By,Cc,Cd,Bs,Cv,Dq,Db,Dg,Cx,Cy,hf1,hf2,hf3,hf4,hf5]
  refine WC.mono (ihor _ _ c1 hp1 hi ne3) ?_
  cases hX4 : P ts n .or i with
  | out => exact absurd hX4 ne3
  | bad a e =>
    rintro _ ⟨S4, rfl, x4⟩
    simp only [A3,A6,Bb,Bc,Cr,Bn,B4,C9,Cu,B5,Cs,Ct,Da,Bu,Be,Bo,Bp,A2,A9,Ba,A5,Dc,B6,Bm,Bh,A8,A4,Bi,Bg,Bf,Bq,Br,B9,Ca,Bv,C0,Cz,C1,A0,A1,C2,Dd,ofOpt,ofOptS,Bw,Dh,Di,Cj,Cl,Bk,Bl,C4,Bj,Df,A7,Bd,Cm,Cn,Co,Cp,Cq,B3,B1,Nat.reduceLT,Nat.reduceAdd,Nat.reduceEqDiff,Aa,Ab,reduceIte,Ac,Ad,Ae,Af,Ag,Ah,Ai,Aj,Ak,Al,Am,Ao,Ap,Aq,Ar,Au,Av,Aw,Option.toList,Ay,Az,Tryz.f80,Cg,Ch,B7,B8,Do,Dp,fp0,Cb,C3,C8,C7,C6,C5,Dl,Dj,Dk,Cw,Ce,B0,Bt,Cf,Bz,By,Cc,Cd,Bs,Cv,Dq,Db,Dg,Cx,Cy,hf1,hf2,hf3,hf4,hf5]
    exact ⟨_, rfl, y2.trans x4⟩
  | ok a4 j4 =>
    rw [hX4] at ho; rw [Ds] at ho ⊢
    rintro _ ⟨v4, S4, rfl, hr4, x4, c4, hi4⟩
    obtain ⟨xs4, rfl, hl4⟩ := RepE.agg hr4
    have rf4 := RepE.refl hr4
    have hp4 : p < S4.next := Nat.lt_of_lt_of_le hp1 x4.1
    have y5 := (y2).trans x4
    have br_5 := br.keep x4
    obtain ⟨S6, q6, x6, c6, bx, hp6⟩ := N7 c4 hp4 (xs := xs4) hl4
    have y7 := (y5).trans x6
    have br_7 := br_5.keep x6
    by_cases hm : (tk ts j4).text ∈ [[45, 62]]
    · rw [if_pos hm] at ho ⊢
      simp only [A3,A6,Bb,Bc,Cr,Bn,B4,C9,Cu,B5,Cs,Ct,Da,Bu,Be,Bo,Bp,A2,A9,Ba,A5,Dc,B6,Bm,Bh,A8,A4,Bi,Bg,Bf,Bq,Br,B9,Ca,Bv,C0,Cz,C1,A0,A1,C2,Dd,ofOpt,ofOptS,Bw,Dh,Di,Cj,Cl,Bk,Bl,C4,Bj,Df,A7,Bd,Cm,Cn,Co,Cp,Cq,B3,B1,Nat.reduceLT,Nat.reduceAdd,Nat.reduceEqDiff,Aa,Ab,reduceIte,Ac,Ad,Ae,Af,Ag,Ah,Ai,Aj,Ak,Al,Am,Ao,Ap,Aq,Ar,Au,Av,Aw,Option.toList,Ay,Az,Tryz.f80,Cg,Ch,B7,B8,Do,Dp,fp0,Cb,C3,C8,C7,C6,C5,Dl,Dj,Dk,Cw,Ce,B0,Bt,Cf,Bz,By,Cc,Cd,Bs,Cv,Dq,Db,Dg,Cx,Cy,hf1,hf2,hf3,hf4,hf5,rf4,q6]
      refine WC.mono (Hw c6 hp6 hi4 hts 1 0 [[45, 62]] (by decide) (by decide) hm) ?_
      rintro _ ⟨S8, rfl, x8, c8, hi8, hp8⟩
      have y9 := (y7).trans x8
      have br_9 := br_7.keep x8
      have bx_9 := bx.keep x8
      obtain ⟨S10, q10, x10, c10, bt, hp10⟩ := Eu c8 hp8 (tk ts j4)
      have y11 := (y9).trans x10
      have br_11 := br_9.keep x10
      have bx_11 := bx_9.keep x10
      have l12 := bt.ld68
      have l13 := bx_11.ld30 hl4
      simp only [A3,A6,Bb,Bc,Cr,Bn,B4,C9,Cu,B5,Cs,Ct,Da,Bu,Be,Bo,Bp,A2,A9,Ba,A5,Dc,B6,Bm,Bh,A8,A4,Bi,Bg,Bf,Bq,Br,B9,Ca,Bv,C0,Cz,C1,A0,A1,C2,Dd,ofOpt,ofOptS,Bw,Dh,Di,Cj,Cl,Bk,Bl,C4,Bj,Df,A7,Bd,Cm,Cn,Co,Cp,Cq,B3,B1,Nat.reduceLT,Nat.reduceAdd,Nat.reduceEqDiff,Aa,Ab,reduceIte,Ac,Ad,Ae,Af,Ag,Ah,Ai,Aj,Ak,Al,Am,Ao,Ap,Aq,Ar,Au,Av,Aw,Option.toList,Ay,Az,Tryz.f80,Cg,Ch,B7,B8,Do,Dp,fp0,Cb,C3,C8,C7,C6,C5,Dl,Dj,Dk,Cw,Ce,B0,Bt,Cf,Bz,By,Cc,Cd,Bs,Cv,Dq,Db,Dg,Cx,Cy,hf1,hf2,hf3,hf4,hf5,rf4,q6,q10,l12,l13]
      refine K5 [(0, true), (1, true), (2, true), (3, true), (1, false), (0, false), (4, true), (5, true), (6, true)] (by kernel_rfl) (by kernel_rfl) ?_
      have ne14 := Fi ho
      simp only [A3,A6,Bb,Bc,Cr,Bn,B4,C9,Cu,B5,Cs,Ct,Da,Bu,Be,Bo,Bp,A2,A9,Ba,A5,Dc,B6,Bm,Bh,A8,A4,Bi,Bg,Bf,Bq,Br,B9,Ca,Bv,C0,Cz,C1,A0,A1,C2,Dd,ofOpt,ofOptS,Bw,Dh,Di,Cj,Cl,Bk,Bl,C4,Bj,Df,A7,Bd,Cm,Cn,Co,Cp,Cq,B3,B1,Nat.reduceLT,Nat.reduceAdd,Nat.reduceEqDiff,Aa,Ab,reduceIte,Ac,Ad,Ae,Af,Ag,Ah,Ai,Aj,Ak,Al,Am,Ao,Ap,Aq,Ar,Au,Av,Aw,Option.toList,Ay,Az,Tryz.f80,Cg,Ch,B7,B8,Do,Dp,fp0,Cb,C3,C8,C7,C6,C5,Dl,Dj,Dk,Cw,Ce,B0,Bt,Cf,Bz,By,Cc,Cd,Bs,Cv,Dq,Db,Dg,Cx,Cy,hf1,hf2,hf3,hf4,hf5,rf4,q6,q10,l12,l13]
      refine WC.mono (iharrow _ _ c10 hp10 hi8 ne14) ?_
      cases hX15 : P ts n .arrow (j4 + 1) with
      | out => exact absurd hX15 ne14
      | bad a e =>
        rintro _ ⟨S15, rfl, x15⟩
        simp only [A3,A6,Bb,Bc,Cr,Bn,B4,C9,Cu,B5,Cs,Ct,Da,Bu,Be,Bo,Bp,A2,A9,Ba,A5,Dc,B6,Bm,Bh,A8,A4,Bi,Bg,Bf,Bq,Br,B9,Ca,Bv,C0,Cz,C1,A0,A1,C2,Dd,ofOpt,ofOptS,Bw,Dh,Di,Cj,Cl,Bk,Bl,C4,Bj,Df,A7,Bd,Cm,Cn,Co,Cp,Cq,B3,B1,Nat.reduceLT,Nat.reduceAdd,Nat.reduceEqDiff,Aa,Ab,reduceIte,Ac,Ad,Ae,Af,Ag,Ah,Ai,Aj,Ak,Al,Am,Ao,Ap,Aq,Ar,Au,Av,Aw,Option.toList,Ay,Az,Tryz.f80,Cg,Ch,B7,B8,Do,Dp,fp0,Cb,C3,C8,C7,C6,C5,Dl,Dj,Dk,Cw,Ce,B0,Bt,Cf,Bz,By,Cc,Cd,Bs,Cv,Dq,Db,Dg,Cx,Cy,hf1,hf2,hf3,hf4,hf5,rf4,q6,q10,l12,l13]
        exact ⟨_, rfl, y11.trans x15⟩
      | ok a15 j15 =>
        rw [hX15] at ho; rw [Ds] at ho ⊢
        rintro _ ⟨v15, S15, rfl, hr15, x15, c15, hi15⟩
        obtain ⟨xs15, rfl, hl15⟩ := RepE.agg hr15
        have rf15 := RepE.refl hr15
        have hp15 : p < S15.next := Nat.lt_of_lt_of_le hp10 x15.1
        have y16 := (y11).trans x15
        have br_16 := br_11.keep x15
        have bx_16 := bx_11.keep x15
        have bt_16 := bt.keep x15
        have l17 := bt_16.ld68
        have l18 := bx_16.ld30 hl4
        have l19 := Tq xs4 xs15 hl4 hl15
        simp only [A3,A6,Bb,Bc,Cr,Bn,B4,C9,Cu,B5,Cs,Ct,Da,Bu,Be,Bo,Bp,A2,A9,Ba,A5,Dc,B6,Bm,Bh,A8,A4,Bi,Bg,Bf,Bq,Br,B9,Ca,Bv,C0,Cz,C1,A0,A1,C2,Dd,ofOpt,ofOptS,Bw,Dh,Di,Cj,Cl,Bk,Bl,C4,Bj,Df,A7,Bd,Cm,Cn,Co,Cp,Cq,B3,B1,Nat.reduceLT,Nat.reduceAdd,Nat.reduceEqDiff,Aa,Ab,reduceIte,Ac,Ad,Ae,Af,Ag,Ah,Ai,Aj,Ak,Al,Am,Ao,Ap,Aq,Ar,Au,Av,Aw,Option.toList,Ay,Az,Tryz.f80,Cg,Ch,B7,B8,Do,Dp,fp0,Cb,C3,C8,C7,C6,C5,Dl,Dj,Dk,Cw,Ce,B0,Bt,Cf,Bz,By,Cc,Cd,Bs,Cv,Dq,Db,Dg,Cx,Cy,hf1,hf2,hf3,hf4,hf5,rf4,q6,q10,l12,l13,rf15,l17,l18,l19]
        refine WC.mono (Md _ 8 (tk ts j4) (.sl 1 0 6 [.agg xs4, .agg xs15]) (.inr ⟨_, _, _, rfl⟩)) ?_
        rintro _ ⟨S20, rfl, k20⟩
        have x20 := k20.x p
        have c20 := c15.keep hp15 k20
        have hp20 : p < S20.next := Nat.lt_of_lt_of_le hp15 x20.1
        have y21 := (y16).trans x20
        have br_21 := br_16.keep x20
        have bx_21 := bx_16.keep x20
        have bt_21 := bt_16.keep x20
        obtain ⟨g22, h22, gx, gc⟩ := Ft (S0 := S) c20 br_21 rfl (Nat.le_refl _) y21 (xs := (exC 8 (tk ts j4).pos 0 [] false (.sl 1 0 6 [.agg xs4, .agg xs15]))) rfl
        simp only [A3,A6,Bb,Bc,Cr,Bn,B4,C9,Cu,B5,Cs,Ct,Da,Bu,Be,Bo,Bp,A2,A9,Ba,A5,Dc,B6,Bm,Bh,A8,A4,Bi,Bg,Bf,Bq,Br,B9,Ca,Bv,C0,Cz,C1,A0,A1,C2,Dd,ofOpt,ofOptS,Bw,Dh,Di,Cj,Cl,Bk,Bl,C4,Bj,Df,A7,Bd,Cm,Cn,Co,Cp,Cq,B3,B1,Nat.reduceLT,Nat.reduceAdd,Nat.reduceEqDiff,Aa,Ab,reduceIte,Ac,Ad,Ae,Af,Ag,Ah,Ai,Aj,Ak,Al,Am,Ao,Ap,Aq,Ar,Au,Av,Aw,Option.toList,Ay,Az,Tryz.f80,Cg,Ch,B7,B8,Do,Dp,fp0,Cb,C3,C8,C7,C6,C5,Dl,Dj,Dk,Cw,Ce,B0,Bt,Cf,Bz,By,Cc,Cd,Bs,Cv,Dq,Db,Dg,Cx,Cy,hf1,hf2,hf3,hf4,hf5,rf4,q6,q10,l12,l13,rf15,l17,l18,l19,g22,h22]
        exact ⟨_, _, rfl, (.mk 8 (tk ts j4).pos 0 [] false _ _ (.row _ _ _ _ (.cons _ _ _ _ hr4 (.cons _ _ _ _ hr15 .nil)))), gx, gc, hi15⟩
    · rw [if_neg hm] at ho ⊢
      simp only [A3,A6,Bb,Bc,Cr,Bn,B4,C9,Cu,B5,Cs,Ct,Da,Bu,Be,Bo,Bp,A2,A9,Ba,A5,Dc,B6,Bm,Bh,A8,A4,Bi,Bg,Bf,Bq,Br,B9,Ca,Bv,C0,Cz,C1,A0,A1,C2,Dd,ofOpt,ofOptS,Bw,Dh,Di,Cj,Cl,Bk,Bl,C4,Bj,Df,A7,Bd,Cm,Cn,Co,Cp,Cq,B3,B1,Nat.reduceLT,Nat.reduceAdd,Nat.reduceEqDiff,Aa,Ab,reduceIte,Ac,Ad,Ae,Af,Ag,Ah,Ai,Aj,Ak,Al,Am,Ao,Ap,Aq,Ar,Au,Av,Aw,Option.toList,Ay,Az,Tryz.f80,Cg,Ch,B7,B8,Do,Dp,fp0,Cb,C3,C8,C7,C6,C5,Dl,Dj,Dk,Cw,Ce,B0,Bt,Cf,Bz,By,Cc,Cd,Bs,Cv,Dq,Db,Dg,Cx,Cy,hf1,hf2,hf3,hf4,hf5,rf4,q6]
      refine WC.mono (Iv c6 hp6 hi4 hts 1 0 [[45, 62]] (by decide) hm) ?_
      rintro _ ⟨S23, rfl, x23, c23, hi23, hp23⟩
      have y24 := (y7).trans x23
      have br_24 := br_7.keep x23
      have bx_24 := bx.keep x23
      obtain ⟨S25, q25, x25, c25, bt, hp25⟩ := Eu c23 hp23 Dx
      have y26 := (y24).trans x25
      have br_26 := br_24.keep x25
      have bx_26 := bx_24.keep x25
      have l27 := bx_26.ld30 hl4
      simp only [A3,A6,Bb,Bc,Cr,Bn,B4,C9,Cu,B5,Cs,Ct,Da,Bu,Be,Bo,Bp,A2,A9,Ba,A5,Dc,B6,Bm,Bh,A8,A4,Bi,Bg,Bf,Bq,Br,B9,Ca,Bv,C0,Cz,C1,A0,A1,C2,Dd,ofOpt,ofOptS,Bw,Dh,Di,Cj,Cl,Bk,Bl,C4,Bj,Df,A7,Bd,Cm,Cn,Co,Cp,Cq,B3,B1,Nat.reduceLT,Nat.reduceAdd,Nat.reduceEqDiff,Aa,Ab,reduceIte,Ac,Ad,Ae,Af,Ag,Ah,Ai,Aj,Ak,Al,Am,Ao,Ap,Aq,Ar,Au,Av,Aw,Option.toList,Ay,Az,Tryz.f80,Cg,Ch,B7,B8,Do,Dp,fp0,Cb,C3,C8,C7,C6,C5,Dl,Dj,Dk,Cw,Ce,B0,Bt,Cf,Bz,By,Cc,Cd,Bs,Cv,Dq,Db,Dg,Cx,Cy,hf1,hf2,hf3,hf4,hf5,rf4,q6,q25,l27]
      refine WC.mono (const_w _ xs4 _ hr4) ?_
      rintro _ ⟨S28, rfl, k28⟩
      have x28 := k28.x p
      have c28 := c25.keep hp25 k28
      have hp28 : p < S28.next := Nat.lt_of_lt_of_le hp25 x28.1
      have y29 := (y26).trans x28
      have br_29 := br_26.keep x28
      have bx_29 := bx_26.keep x28
      have bt_29 := bt.keep x28
      have l30 := bx_29.ld30 hl4
      by_cases hcn : Oz a4 = false
      · rw [if_pos hcn] at ho ⊢
        rw [hcn]
        obtain ⟨g31, h31, gx, gc⟩ := Ft (S0 := S) c28 br_29 rfl (Nat.le_refl _) y29 (xs := xs4) hl4
        simp only [A3,A6,Bb,Bc,Cr,Bn,B4,C9,Cu,B5,Cs,Ct,Da,Bu,Be,Bo,Bp,A2,A9,Ba,A5,Dc,B6,Bm,Bh,A8,A4,Bi,Bg,Bf,Bq,Br,B9,Ca,Bv,C0,Cz,C1,A0,A1,C2,Dd,ofOpt,ofOptS,Bw,Dh,Di,Cj,Cl,Bk,Bl,C4,Bj,Df,A7,Bd,Cm,Cn,Co,Cp,Cq,B3,B1,Nat.reduceLT,Nat.reduceAdd,Nat.reduceEqDiff,Aa,Ab,reduceIte,Ac,Ad,Ae,Af,Ag,Ah,Ai,Aj,Ak,Al,Am,Ao,Ap,Aq,Ar,Au,Av,Aw,Option.toList,Ay,Az,Tryz.f80,Cg,Ch,B7,B8,Do,Dp,fp0,Cb,C3,C8,C7,C6,C5,Dl,Dj,Dk,Cw,Ce,B0,Bt,Cf,Bz,By,Cc,Cd,Bs,Cv,Dq,Db,Dg,Cx,Cy,hf1,hf2,hf3,hf4,hf5,rf4,q6,q25,l27,l30,g31,h31]
        exact ⟨_, _, rfl, hr4, gx, gc, hi23⟩
      · rw [if_neg hcn] at ho ⊢
        have hcn2 : Oz a4 = true := by simpa using hcn
        rw [hcn2]
        by_cases hm2 : (tk ts j4).text ∈ [[102, 98, 121]]
        · rw [if_pos hm2] at ho ⊢
          simp only [A3,A6,Bb,Bc,Cr,Bn,B4,C9,Cu,B5,Cs,Ct,Da,Bu,Be,Bo,Bp,A2,A9,Ba,A5,Dc,B6,Bm,Bh,A8,A4,Bi,Bg,Bf,Bq,Br,B9,Ca,Bv,C0,Cz,C1,A0,A1,C2,Dd,ofOpt,ofOptS,Bw,Dh,Di,Cj,Cl,Bk,Bl,C4,Bj,Df,A7,Bd,Cm,Cn,Co,Cp,Cq,B3,B1,Nat.reduceLT,Nat.reduceAdd,Nat.reduceEqDiff,Aa,Ab,reduceIte,Ac,Ad,Ae,Af,Ag,Ah,Ai,Aj,Ak,Al,Am,Ao,Ap,Aq,Ar,Au,Av,Aw,Option.toList,Ay,Az,Tryz.f80,Cg,Ch,B7,B8,Do,Dp,fp0,Cb,C3,C8,C7,C6,C5,Dl,Dj,Dk,Cw,Ce,B0,Bt,Cf,Bz,By,Cc,Cd,Bs,Cv,Dq,Db,Dg,Cx,Cy,hf1,hf2,hf3,hf4,hf5,rf4,q6,q25,l27,l30]
          refine WC.mono (Hw c28 hp28 hi23 hts 1 0 [[102, 98, 121]] (by decide) (by decide) hm2) ?_
          rintro _ ⟨S32, rfl, x32, c32, hi32, hp32⟩
          have y33 := (y29).trans x32
          have br_33 := br_29.keep x32
          have bx_33 := bx_29.keep x32
          have bt_33 := bt_29.keep x32
          obtain ⟨S34, q34, x34, c34, bt2, hp34⟩ := Eu c32 hp32 (tk ts j4)
          have y35 := (y33).trans x34
          have br_35 := br_33.keep x34
          have bx_35 := bx_33.keep x34
          have bt_35 := bt_33.keep x34
          have l36 := bt2.ld68
          have l37 := bx_35.ld30 hl4
          simp only [A3,A6,Bb,Bc,Cr,Bn,B4,C9,Cu,B5,Cs,Ct,Da,Bu,Be,Bo,Bp,A2,A9,Ba,A5,Dc,B6,Bm,Bh,A8,A4,Bi,Bg,Bf,Bq,Br,B9,Ca,Bv,C0,Cz,C1,A0,A1,C2,Dd,ofOpt,ofOptS,Bw,Dh,Di,Cj,Cl,Bk,Bl,C4,Bj,Df,A7,Bd,Cm,Cn,Co,Cp,Cq,B3,B1,Nat.reduceLT,Nat.reduceAdd,Nat.reduceEqDiff,Aa,Ab,reduceIte,Ac,Ad,Ae,Af,Ag,Ah,Ai,Aj,Ak,Al,Am,Ao,Ap,Aq,Ar,Au,Av,Aw,Option.toList,Ay,Az,Tryz.f80,Cg,Ch,B7,B8,Do,Dp,fp0,Cb,C3,C8,C7,C6,C5,Dl,Dj,Dk,Cw,Ce,B0,Bt,Cf,Bz,By,Cc,Cd,Bs,Cv,Dq,Db,Dg,Cx,Cy,hf1,hf2,hf3,hf4,hf5,rf4,q6,q25,l27,l30,q34,l36,l37]
          refine K5 [(0, true), (1, true), (2, true), (3, true), (1, false), (0, false), (4, true), (5, true), (6, true)] (by kernel_rfl) (by kernel_rfl) ?_
          have ne38 := Fi ho
          simp only [A3,A6,Bb,Bc,Cr,Bn,B4,C9,Cu,B5,Cs,Ct,Da,Bu,Be,Bo,Bp,A2,A9,Ba,A5,Dc,B6,Bm,Bh,A8,A4,Bi,Bg,Bf,Bq,Br,B9,Ca,Bv,C0,Cz,C1,A0,A1,C2,Dd,ofOpt,ofOptS,Bw,Dh,Di,Cj,Cl,Bk,Bl,C4,Bj,Df,A7,Bd,Cm,Cn,Co,Cp,Cq,B3,B1,Nat.reduceLT,Nat.reduceAdd,Nat.reduceEqDiff,Aa,Ab,reduceIte,Ac,Ad,Ae,Af,Ag,Ah,Ai,Aj,Ak,Al,Am,Ao,Ap,Aq,Ar,Au,Av,Aw,Option.toList,Ay,Az,Tryz.f80,Cg,Ch,B7,B8,Do,Dp,fp0,Cb,C3,C8,C7,C6,C5,Dl,Dj,Dk,Cw,Ce,B0,Bt,Cf,Bz,By,Cc,Cd,Bs,Cv,Dq,Db,Dg,Cx,Cy,hf1,hf2,hf3,hf4,hf5,rf4,q6,q25,l27,l30,q34,l36,l37]
          refine WC.mono (iharrow _ _ c34 hp34 hi32 ne38) ?_
          cases hX39 : P ts n .arrow (j4 + 1) with
          | out => exact absurd hX39 ne38
          | bad a e =>
            rintro _ ⟨S39, rfl, x39⟩
            simp only [A3,A6,Bb,Bc,Cr,Bn,B4,C9,Cu,B5,Cs,Ct,Da,Bu,Be,Bo,Bp,A2,A9,Ba,A5,Dc,B6,Bm,Bh,A8,A4,Bi,Bg,Bf,Bq,Br,B9,Ca,Bv,C0,Cz,C1,A0,A1,C2,Dd,ofOpt,ofOptS,Bw,Dh,Di,Cj,Cl,Bk,Bl,C4,Bj,Df,A7,Bd,Cm,Cn,Co,Cp,Cq,B3,B1,Nat.reduceLT,Nat.reduceAdd,Nat.reduceEqDiff,Aa,Ab,reduceIte,Ac,Ad,Ae,Af,Ag,Ah,Ai,Aj,Ak,Al,Am,Ao,Ap,Aq,Ar,Au,Av,Aw,Option.toList,Ay,Az,Tryz.f80,Cg,Ch,B7,B8,Do,Dp,fp0,Cb,C3,C8,C7,C6,C5,Dl,Dj,Dk,Cw,Ce,B0,Bt,Cf,Bz,By,Cc,Cd,Bs,Cv,Dq,Db,Dg,Cx,Cy,hf1,hf2,hf3,hf4,hf5,rf4,q6,q25,l27,l30,q34,l36,l37]
            exact ⟨_, rfl, y35.trans x39⟩
          | ok a39 j39 =>
            rw [hX39] at ho; rw [Ds] at ho ⊢
            rintro _ ⟨v39, S39, rfl, hr39, x39, c39, hi39⟩
            obtain ⟨xs39, rfl, hl39⟩ := RepE.agg hr39
            have rf39 := RepE.refl hr39
            have hp39 : p < S39.next := Nat.lt_of_lt_of_le hp34 x39.1
            have y40 := (y35).trans x39
            have br_40 := br_35.keep x39
            have bx_40 := bx_35.keep x39
            have bt_40 := bt2.keep x39
            have bt2_40 := bt2.keep x39
            have l41 := bt_40.ld68
            have l42 := bx_40.ld30 hl4
            have l43 := Tq xs4 xs39 hl4 hl39
            simp only [A3,A6,Bb,Bc,Cr,Bn,B4,C9,Cu,B5,Cs,Ct,Da,Bu,Be,Bo,Bp,A2,A9,Ba,A5,Dc,B6,Bm,Bh,A8,A4,Bi,Bg,Bf,Bq,Br,B9,Ca,Bv,C0,Cz,C1,A0,A1,C2,Dd,ofOpt,ofOptS,Bw,Dh,Di,Cj,Cl,Bk,Bl,C4,Bj,Df,A7,Bd,Cm,Cn,Co,Cp,Cq,B3,B1,Nat.reduceLT,Nat.reduceAdd,Nat.reduceEqDiff,Aa,Ab,reduceIte,Ac,Ad,Ae,Af,Ag,Ah,Ai,Aj,Ak,Al,Am,Ao,Ap,Aq,Ar,Au,Av,Aw,Option.toList,Ay,Az,Tryz.f80,Cg,Ch,B7,B8,Do,Dp,fp0,Cb,C3,C8,C7,C6,C5,Dl,Dj,Dk,Cw,Ce,B0,Bt,Cf,Bz,By,Cc,Cd,Bs,Cv,Dq,Db,Dg,Cx,Cy,hf1,hf2,hf3,hf4,hf5,rf4,q6,q25,l27,l30,q34,l36,l37,rf39,l41,l42,l43]
            refine WC.mono (Md _ 9 (tk ts j4) (.sl 1 0 6 [.agg xs4, .agg xs39]) (.inr ⟨_, _, _, rfl⟩)) ?_
            rintro _ ⟨S44, rfl, k44⟩
            have x44 := k44.x p
            have c44 := c39.keep hp39 k44
            have hp44 : p < S44.next := Nat.lt_of_lt_of_le hp39 x44.1
            have y45 := (y40).trans x44
            have br_45 := br_40.keep x44
            have bx_45 := bx_40.keep x44
            have bt_45 := bt_40.keep x44
            have bt2_45 := bt2_40.keep x44
            obtain ⟨g46, h46, gx, gc⟩ := Ft (S0 := S) c44 br_45 rfl (Nat.le_refl _) y45 (xs := (exC 9 (tk ts j4).pos 0 [] false (.sl 1 0 6 [.agg xs4, .agg xs39]))) rfl
            simp only [A3,A6,Bb,Bc,Cr,Bn,B4,C9,Cu,B5,Cs,Ct,Da,Bu,Be,Bo,Bp,A2,A9,Ba,A5,Dc,B6,Bm,Bh,A8,A4,Bi,Bg,Bf,Bq,Br,B9,Ca,Bv,C0,Cz,C1,A0,A1,C2,Dd,ofOpt,ofOptS,Bw,Dh,Di,Cj,Cl,Bk,Bl,C4,Bj,Df,A7,Bd,Cm,Cn,Co,Cp,Cq,B3,B1,Nat.reduceLT,Nat.reduceAdd,Nat.reduceEqDiff,Aa,Ab,reduceIte,Ac,Ad,Ae,Af,Ag,Ah,Ai,Aj,Ak,Al,Am,Ao,Ap,Aq,Ar,Au,Av,Aw,Option.toList,Ay,Az,Tryz.f80,Cg,Ch,B7,B8,Do,Dp,fp0,Cb,C3,C8,C7,C6,C5,Dl,Dj,Dk,Cw,Ce,B0,Bt,Cf,Bz,By,Cc,Cd,Bs,Cv,Dq,Db,Dg,Cx,Cy,hf1,hf2,hf3,hf4,hf5,rf4,q6,q25,l27,l30,q34,l36,l37,rf39,l41,l42,l43,g46,h46]
            exact ⟨_, _, rfl, (.mk 9 (tk ts j4).pos 0 [] false _ _ (.row _ _ _ _ (.cons _ _ _ _ hr4 (.cons _ _ _ _ hr39 .nil)))), gx, gc, hi39⟩
        · rw [if_neg hm2] at ho ⊢
          simp only [A3,A6,Bb,Bc,Cr,Bn,B4,C9,Cu,B5,Cs,Ct,Da,Bu,Be,Bo,Bp,A2,A9,Ba,A5,Dc,B6,Bm,Bh,A8,A4,Bi,Bg,Bf,Bq,Br,B9,Ca,Bv,C0,Cz,C1,A0,A1,C2,Dd,ofOpt,ofOptS,Bw,Dh,Di,Cj,Cl,Bk,Bl,C4,Bj,Df,A7,Bd,Cm,Cn,Co,Cp,Cq,B3,B1,Nat.reduceLT,Nat.reduceAdd,Nat.reduceEqDiff,Aa,Ab,reduceIte,Ac,Ad,Ae,Af,Ag,Ah,Ai,Aj,Ak,Al,Am,Ao,Ap,Aq,Ar,Au,Av,Aw,Option.toList,Ay,Az,Tryz.f80,Cg,Ch,B7,B8,Do,Dp,fp0,Cb,C3,C8,C7,C6,C5,Dl,Dj,Dk,Cw,Ce,B0,Bt,Cf,Bz,By,Cc,Cd,Bs,Cv,Dq,Db,Dg,Cx,Cy,hf1,hf2,hf3,hf4,hf5,rf4,q6,q25,l27,l30]
          refine WC.mono (Iv c28 hp28 hi23 hts 1 0 [[102, 98, 121]] (by decide) hm2) ?_
          rintro _ ⟨S47, rfl, x47, c47, hi47, hp47⟩
          have y48 := (y29).trans x47
          have br_48 := br_29.keep x47
          have bx_48 := bx_29.keep x47
          have bt_48 := bt_29.keep x47
          obtain ⟨S49, q49, x49, c49, bt2, hp49⟩ := Eu c47 hp47 Dx
          have y50 := (y48).trans x49
          have br_50 := br_48.keep x49
          have bx_50 := bx_48.keep x49
          have bt_50 := bt_48.keep x49
          have l51 := bx_50.ld30 hl4
          obtain ⟨g52, h52, gx, gc⟩ := Ft (S0 := S) c49 br_50 rfl (Nat.le_refl _) y50 (xs := xs4) hl4
          simp only [A3,A6,Bb,Bc,Cr,Bn,B4,C9,Cu,B5,Cs,Ct,Da,Bu,Be,Bo,Bp,A2,A9,Ba,A5,Dc,B6,Bm,Bh,A8,A4,Bi,Bg,Bf,Bq,Br,B9,Ca,Bv,C0,Cz,C1,A0,A1,C2,Dd,ofOpt,ofOptS,Bw,Dh,Di,Cj,Cl,Bk,Bl,C4,Bj,Df,A7,Bd,Cm,Cn,Co,Cp,Cq,B3,B1,Nat.reduceLT,Nat.reduceAdd,Nat.reduceEqDiff,Aa,Ab,reduceIte,Ac,Ad,Ae,Af,Ag,Ah,Ai,Aj,Ak,Al,Am,Ao,Ap,Aq,Ar,Au,Av,Aw,Option.toList,Ay,Az,Tryz.f80,Cg,Ch,B7,B8,Do,Dp,fp0,Cb,C3,C8,C7,C6,C5,Dl,Dj,Dk,Cw,Ce,B0,Bt,Cf,Bz,By,Cc,Cd,Bs,Cv,Dq,Db,Dg,Cx,Cy,hf1,hf2,hf3,hf4,hf5,rf4,q6,q25,l27,l30,q49,l51,g52,h52]
          exact ⟨_, _, rfl, hr4, gx, gc, hi47⟩
end
end Go.Ax
