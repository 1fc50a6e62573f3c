/-
  What the parser Lo: programs.
-/
import Derived.Test.YtjgknelmjdallaaGreatDoorPlPm
noncomputable section
namespace Go.Ax
open Go.RowKit Go.Proofs
set_option linter.unusedVariables false
set_option linter.unusedSimpArgs false
set_option maxRecDepth 100000

inductive NodeRows : List AV → List PN → Prop where
  | nil : NodeRows [] []
  | cons (a : AV) (q : PN) (r : List AV) (l : List PN) (h : Yw a q) (h2 : NodeRows r l) : NodeRows (a :: r) (q :: l)
theorem NodeRows.app : ∀ {es : List AV} {l : List PN} {a : AV} {e : PN}, NodeRows es l → Yw a e → NodeRows (es ++ [a]) (l ++ [e]) := fun {es l a e} h h2 => by
  induction es generalizing l with
  | nil => cases h; exact .cons _ _ _ _ h2 .nil
  | cons x r ih => cases h with
    | cons _ e2 _ l2 h3 h4 => exact .cons _ _ _ _ h3 (ih h4)
theorem NodeRows.len : ∀ {es : List AV} {l : List PN}, NodeRows es l → es.length = l.length := fun {es l} h => by
  induction es generalizing l with
  | nil => cases h; rfl
  | cons a r ih => cases h with
    | cons _ e _ l2 h h2 => simp [ih h2]
theorem i49 : (Tryz.prog.info? 49).map (fun i => (i.zero, i.size, i.bytes)) = some (some (.agg #[.string ⟨#[]⟩, .int .i64 0, .slice none 0 0, .slice none 0 0, .slice none 0 0, .slice none 0 0]), 6, 120) := by kernel_rfl
theorem el40 : Gu Tryz.prog 40 = some (none, 49) := by kernel_rfl
theorem un40 : Tryz.prog.underlying 40 = some (.slice 49) := by kernel_rfl
theorem zr49 : Jy Tryz.prog 49 = some (.agg V7) := by kernel_rfl
theorem eW (xs : List AV) (hx : xs.length = 6) : D3 Tryz.prog 40 1 [(0, .agg xs)] = some (.sl 1 0 6 [.agg xs]) := by
  simp [D3, el40, V8, zr49, B7, B8, hx]
theorem app40 (S : St) (a b : AV) : G6 E1 S 40 40 a b = Fp Tryz.prog S 40 40 a b := rfl
theorem push40 {lo : Nat} {S : St} {tok : Nat} {es : List AV} (h : O5 6 lo S tok es) (hn : 2 ≤ S.next) (hlo : lo ≤ S.next) (xs : List AV) (hx : xs.length = 6) (hl : es.length ≤ 2000000) :
    ∃ S', G6 E1 S 40 40 (.sl tok 0 6 es) (.sl 1 0 6 [.agg xs]) = some (.sl S.next 0 6 (es ++ [.agg xs]), S') ∧ O5 6 lo S' S.next (es ++ [.agg xs]) ∧ S.next ≤ S'.next ∧ ∀ id, id < lo → S'.mem.get id = S.mem.get id := by
  obtain ⟨i, hi, hz0, hz1, hz2⟩ := Gg i49
  have hb1 : (es.length + 1) * 120 ≤ 140737488355328 := by omega
  have hb2 : es.length + 1 ≤ 9223372036854775807 := by omega
  rw [app40]
  rcases h with rfl | ⟨h1, h2, h3, h5⟩
  · refine ⟨S.grown 1 ((es ++ [AV.agg xs]).length * 6), ?_, .inr ⟨hn, hlo, Nat.lt_succ_self _, ?_⟩, Nat.le_succ _, fun id hid => ?_⟩
    · simp [Fp, el40, hi, hz0, hz1, hz2, Kh, un40, Value.cells, Lj, hb1, hb2]
    · show (S.mem.set S.next _).get S.next = _
      rw [T.get_set, if_pos rfl]
    · show (S.mem.set S.next _).get id = _
      rw [T.get_set, if_neg (by omega)]
  · obtain ⟨k, rfl⟩ : ∃ k, tok = k + 2 := ⟨tok - 2, by omega⟩
    refine ⟨S.grown (k + 2) ((es ++ [AV.agg xs]).length * 6), ?_, .inr ⟨hn, hlo, Nat.lt_succ_self _, ?_⟩, Nat.le_succ _, fun id hid => ?_⟩
    · simp [Fp, el40, hi, hz0, hz1, hz2, Kh, un40, Value.cells, Lj, h5, hb1, hb2]
    · show ((S.mem.set (k + 2) none).set S.next _).get S.next = _
      rw [T.get_set, if_pos rfl]
    · show ((S.mem.set (k + 2) none).set S.next _).get id = _
      rw [T.get_set, if_neg (by omega), T.get_set, if_neg (by omega)]
def Qm (ts : List Tk) (N : Nat) : Nat → List PN → Nat → PR (List PN)
  | 0, _, _ => .out
  | n + 1, l, i => if (tk ts i).text ∈ [[110, 111, 100, 101]] then (Om ts N i).bind fun q j => Qm ts N n (l ++ [q]) j else .ok l i
def Hk (ts : List Tk) (n i : Nat) : PR (List PN) := (Om ts n i).bind fun x j => Qm ts n n [x] j
def dE (v : AV) (l : List PN) : Prop := ∃ tok off es, v = .sl tok off 6 es ∧ NodeRows es l
noncomputable def Lq : Code := match Tryz.f58.body with
  | some (.seq _ (.seq _ (.seq (.block _ (.loop c)) _))) => c
  | _ => .skip
def oW (p k : Nat) (ts : List Tk) (S0 : St) (x : PR (List PN)) (r : O) : Prop :=
  (∃ t' S' tok es l i', r = .out (.exit 0) ⟨t', []⟩ S' ∧ t'.get 3 = some (.sl tok 0 6 es) ∧ NodeRows es l ∧ El p S0 S' ∧ Cur S' p k ts i' ∧ i' < ts.length ∧ p < S'.next ∧ x = .ok l i') ∨
  (∃ t' S' a e, r = .out (.pan (Q3 a e)) ⟨t', []⟩ S' ∧ El p S0 S' ∧ x = .bad a e)
section
variable {p k : Nat} {ts : List Tk} (hts : TokOk ts)
include hts
set_option maxHeartbeats 16000000 in
theorem Wy (h2p : 2 ≤ p) (N : Nat) (hN : N ≤ 1000000) (S0 : St) (hp0 : p < S0.next) : ∀ (n : Nat) (l : List PN) (i : Nat) (t : T AV) (S : St) (tok : Nat) (es : List AV), Qm ts N n l i ≠ .out → n + l.length ≤ 2000000 →
    t.get 0 = some (.ptr p 0) → t.get 3 = some (.sl tok 0 6 es) → Cur S p k ts i → p < S.next → i < ts.length → O5 6 S0.next S tok es → NodeRows es l → El p S0 S →
    WX E1 18 (.loop Lq) ⟨t, []⟩ S (oW p k ts S0 (Qm ts N n l i))
  | 0, l, i, t, S, tok, es, ho, hnl, h0, h3, h, hp, hi, hr, hf, hx => absurd rfl ho
  | n + 1, l, i, t, S, tok, es, ho, hnl, h0, h3, h, hp, hi, hr, hf, hx => by
    refine Fc (Es ?_)
    obtain ⟨fn1, hf1⟩ := Oq
    obtain ⟨fn2, hf2⟩ := mZ
    have eP : Qm ts N (n + 1) l i = if (tk ts i).text ∈ [[110, 111, 100, 101]] then (Om ts N i).bind fun q j => Qm ts N n (l ++ [q]) j else .ok l i := rfl
    rw [eP] at ho ⊢
    clear eP
    have e0 := Iu hi
    simp only [A3,A6,Bb,Bc,Cr,Bn,B4,C9,Cu,B5,Cs,Ct,Da,Ci,Be,Bo,Bp,A2,A9,Ba,A5,De,B6,Bm,Bh,A8,A4,Bi,Bg,Bf,Bq,Br,B9,Ca,Bv,C0,Cz,C1,A0,A1,C2,Dd,ofOpt,ofOptS,Bw,Dh,Di,Cj,Cl,Bk,Bl,C4,Bj,Df,A7,Bd,Cm,Cn,Co,Cp,Cq,B3,B1,Nat.reduceLT,Nat.reduceAdd,Nat.reduceEqDiff,Aa,Ab,reduceIte,Ac,Ad,Ae,Af,Ag,Ah,Ai,Aj,Ak,Al,Am,Ao,Ap,Aq,Ar,Au,Av,Aw,Option.toList,Ay,Az,Tryz.f58,Cg,Ch,B7,B8,Do,Dp,fp0,Cb,C3,C8,C7,C6,C5,Dm,Dj,Dk,Cw,Ce,B0,Bt,Cf,Bz,By,Cc,Cd,Bs,Cv,Dq,Db,Dg,Cx,Cy,hf1,hf2,h0,h3,Lq]
    refine WC.mono (Ll _ p k ts i h hp hi 1 0 [[110, 111, 100, 101]] (by decide)) ?_
    rintro _ ⟨S1, rfl, k1⟩
    have x1 := k1.x p
    have c1 := h.keep hp k1
    have hp1 : p < S1.next := Nat.lt_of_lt_of_le hp x1.1
    have y2 := (hx).trans x1
    rw [← e0]
    by_cases hm : (tk ts i).text ∈ [[110, 111, 100, 101]]
    · rw [if_pos hm] at ho ⊢
      rw [decide_eq_true hm]
      simp only [A3,A6,Bb,Bc,Cr,Bn,B4,C9,Cu,B5,Cs,Ct,Da,Ci,Be,Bo,Bp,A2,A9,Ba,A5,De,B6,Bm,Bh,A8,A4,Bi,Bg,Bf,Bq,Br,B9,Ca,Bv,C0,Cz,C1,A0,A1,C2,Dd,ofOpt,ofOptS,Bw,Dh,Di,Cj,Cl,Bk,Bl,C4,Bj,Df,A7,Bd,Cm,Cn,Co,Cp,Cq,B3,B1,Nat.reduceLT,Nat.reduceAdd,Nat.reduceEqDiff,Aa,Ab,reduceIte,Ac,Ad,Ae,Af,Ag,Ah,Ai,Aj,Ak,Al,Am,Ao,Ap,Aq,Ar,Au,Av,Aw,Option.toList,Ay,Az,Tryz.f58,Cg,Ch,B7,B8,Do,Dp,fp0,Cb,C3,C8,C7,C6,C5,Dm,Dj,Dk,Cw,Ce,B0,Bt,Cf,Bz,By,Cc,Cd,Bs,Cv,Dq,Db,Dg,Cx,Cy,hf1,hf2,h0,h3,Lq]
      have ne1 := Fi ho
      refine WC.mono (lW hts h2p N hN _ _ c1 hp1 hi ne1) ?_
      cases hX3 : Om ts N i with
      | out => exact absurd hX3 ne1
      | bad a e =>
        rintro _ ⟨S3, rfl, x3⟩
        simp only [A3,A6,Bb,Bc,Cr,Bn,B4,C9,Cu,B5,Cs,Ct,Da,Ci,Be,Bo,Bp,A2,A9,Ba,A5,De,B6,Bm,Bh,A8,A4,Bi,Bg,Bf,Bq,Br,B9,Ca,Bv,C0,Cz,C1,A0,A1,C2,Dd,ofOpt,ofOptS,Bw,Dh,Di,Cj,Cl,Bk,Bl,C4,Bj,Df,A7,Bd,Cm,Cn,Co,Cp,Cq,B3,B1,Nat.reduceLT,Nat.reduceAdd,Nat.reduceEqDiff,Aa,Ab,reduceIte,Ac,Ad,Ae,Af,Ag,Ah,Ai,Aj,Ak,Al,Am,Ao,Ap,Aq,Ar,Au,Av,Aw,Option.toList,Ay,Az,Tryz.f58,Cg,Ch,B7,B8,Do,Dp,fp0,Cb,C3,C8,C7,C6,C5,Dm,Dj,Dk,Cw,Ce,B0,Bt,Cf,Bz,By,Cc,Cd,Bs,Cv,Dq,Db,Dg,Cx,Cy,hf1,hf2,h0,h3,Lq]
        exact .inr ⟨_, _, _, _, rfl, y2.trans x3, rfl⟩
      | ok a3 j3 =>
        rw [hX3] at ho; rw [Ds] at ho ⊢
        rintro _ ⟨v9, S3, rfl, hv9, x3, c3, hi3⟩
        obtain ⟨xs, rfl, hxl⟩ : ∃ xs, v9 = .agg xs ∧ xs.length = 6 := by obtain ⟨a, b, c, d, es, e, _⟩ := hv9; exact ⟨_, e, rfl⟩
        have hp3 : p < S3.next := Nat.lt_of_lt_of_le hp1 x3.1
        have y4 := (y2).trans x3
        have rw1 := eW xs hxl
        have hr2 : O5 6 S0.next S3 tok es := hr.keep ((x1).trans x3) hp0
        have hle := y4.1
        obtain ⟨S5, a5, r5, n5, k5⟩ := push40 hr2 (by omega) hle xs hxl (by rw [hf.len]; omega)
        have z9 : El p S0 S5 := ⟨Nat.le_trans hle n5, fun id hid hn => (k5 id hid).trans (y4.2 id hid hn)⟩
        have c9 : Cur S5 p k ts j3 := (k5 p hp0).trans c3
        simp only [A3,A6,Bb,Bc,Cr,Bn,B4,C9,Cu,B5,Cs,Ct,Da,Ci,Be,Bo,Bp,A2,A9,Ba,A5,De,B6,Bm,Bh,A8,A4,Bi,Bg,Bf,Bq,Br,B9,Ca,Bv,C0,Cz,C1,A0,A1,C2,Dd,ofOpt,ofOptS,Bw,Dh,Di,Cj,Cl,Bk,Bl,C4,Bj,Df,A7,Bd,Cm,Cn,Co,Cp,Cq,B3,B1,Nat.reduceLT,Nat.reduceAdd,Nat.reduceEqDiff,Aa,Ab,reduceIte,Ac,Ad,Ae,Af,Ag,Ah,Ai,Aj,Ak,Al,Am,Ao,Ap,Aq,Ar,Au,Av,Aw,Option.toList,Ay,Az,Tryz.f58,Cg,Ch,B7,B8,Do,Dp,fp0,Cb,C3,C8,C7,C6,C5,Dm,Dj,Dk,Cw,Ce,B0,Bt,Cf,Bz,By,Cc,Cd,Bs,Cv,Dq,Db,Dg,Cx,Cy,hf1,hf2,h0,h3,Lq,rw1,a5]
        exact Wy h2p N hN S0 hp0 n _ _ _ _ _ _ ho (by rw [List.length_append]; simp; omega) (by simp [T.get_set, h0]) (by simp [T.get_set]) c9 (by omega) hi3 r5 (hf.app hv9) z9
    · rw [if_neg hm] at ho ⊢
      rw [decide_eq_false hm]
      simp only [A3,A6,Bb,Bc,Cr,Bn,B4,C9,Cu,B5,Cs,Ct,Da,Ci,Be,Bo,Bp,A2,A9,Ba,A5,De,B6,Bm,Bh,A8,A4,Bi,Bg,Bf,Bq,Br,B9,Ca,Bv,C0,Cz,C1,A0,A1,C2,Dd,ofOpt,ofOptS,Bw,Dh,Di,Cj,Cl,Bk,Bl,C4,Bj,Df,A7,Bd,Cm,Cn,Co,Cp,Cq,B3,B1,Nat.reduceLT,Nat.reduceAdd,Nat.reduceEqDiff,Aa,Ab,reduceIte,Ac,Ad,Ae,Af,Ag,Ah,Ai,Aj,Ak,Al,Am,Ao,Ap,Aq,Ar,Au,Av,Aw,Option.toList,Ay,Az,Tryz.f58,Cg,Ch,B7,B8,Do,Dp,fp0,Cb,C3,C8,C7,C6,C5,Dm,Dj,Dk,Cw,Ce,B0,Bt,Cf,Bz,By,Cc,Cd,Bs,Cv,Dq,Db,Dg,Cx,Cy,hf1,hf2,h0,h3,Lq]
      exact .inl ⟨_, _, tok, es, l, i, rfl, by simp [T.get_set, h3], hf, y2, c1, hi, hp1, rfl⟩
set_option maxHeartbeats 16000000 in
theorem iI (h2p : 2 ≤ p) (n : Nat) (hn : n ≤ 1000000) (S : St) (i : Nat) (h : Cur S p k ts i) (hp : p < S.next) (hi : i < ts.length) (ho : Hk ts n i ≠ .out) : WC E1 58 [.ptr p 0] S (Ku p k ts S dE (Hk ts n i)) := by
  have eP : Hk ts n i = (Om ts n i).bind fun x j => Qm ts n n [x] j := rfl
  rw [eP] at ho ⊢
  clear eP
  refine Ek Tryz.f58 (by kernel_rfl) (by kernel_rfl) (by kernel_rfl) (show (_ : Nat) ≤ _ from by show (_ : Nat) ≤ _; simp [Tryz.f58]) ?_
  obtain ⟨fn2, hf2⟩ := mZ
  simp only [A3,A6,Bb,Bc,Cr,Bn,B4,C9,Cu,B5,Cs,Ct,Da,Ci,Be,Bo,Bp,A2,A9,Ba,A5,De,B6,Bm,Bh,A8,A4,Bi,Bg,Bf,Bq,Br,B9,Ca,Bv,C0,Cz,C1,A0,A1,C2,Dd,ofOpt,ofOptS,Bw,Dh,Di,Cj,Cl,Bk,Bl,C4,Bj,Df,A7,Bd,Cm,Cn,Co,Cp,Cq,B3,B1,Nat.reduceLT,Nat.reduceAdd,Nat.reduceEqDiff,Aa,Ab,reduceIte,Ac,Ad,Ae,Af,Ag,Ah,Ai,Aj,Ak,Al,Am,Ao,Ap,Aq,Ar,Au,Av,Aw,Option.toList,Ay,Az,Tryz.f58,Cg,Ch,B7,B8,Do,Dp,fp0,Cb,C3,C8,C7,C6,C5,Dm,Dj,Dk,Cw,Ce,B0,Bt,Cf,Bz,By,Cc,Cd,Bs,Cv,Dq,Db,Dg,Cx,Cy,hf2]
  have ne1 := Fi ho
  refine WC.mono (lW hts h2p n hn _ _ h hp hi ne1) ?_
  cases hX1 : Om ts n i with
  | out => exact absurd hX1 ne1
  | bad a e =>
    rintro _ ⟨S1, rfl, x1⟩
    simp only [A3,A6,Bb,Bc,Cr,Bn,B4,C9,Cu,B5,Cs,Ct,Da,Ci,Be,Bo,Bp,A2,A9,Ba,A5,De,B6,Bm,Bh,A8,A4,Bi,Bg,Bf,Bq,Br,B9,Ca,Bv,C0,Cz,C1,A0,A1,C2,Dd,ofOpt,ofOptS,Bw,Dh,Di,Cj,Cl,Bk,Bl,C4,Bj,Df,A7,Bd,Cm,Cn,Co,Cp,Cq,B3,B1,Nat.reduceLT,Nat.reduceAdd,Nat.reduceEqDiff,Aa,Ab,reduceIte,Ac,Ad,Ae,Af,Ag,Ah,Ai,Aj,Ak,Al,Am,Ao,Ap,Aq,Ar,Au,Av,Aw,Option.toList,Ay,Az,Tryz.f58,Cg,Ch,B7,B8,Do,Dp,fp0,Cb,C3,C8,C7,C6,C5,Dm,Dj,Dk,Cw,Ce,B0,Bt,Cf,Bz,By,Cc,Cd,Bs,Cv,Dq,Db,Dg,Cx,Cy,hf2]
    exact ⟨_, rfl, x1⟩
  | ok a1 j1 =>
    rw [hX1] at ho; rw [Ds] at ho ⊢
    rintro _ ⟨v9, S1, rfl, hv9, x1, c1, hi1⟩
    obtain ⟨xs, rfl, hxl⟩ : ∃ xs, v9 = .agg xs ∧ xs.length = 6 := by obtain ⟨a, b, c, d, es, e, _⟩ := hv9; exact ⟨_, e, rfl⟩
    have hp1 : p < S1.next := Nat.lt_of_lt_of_le hp x1.1
    have rw1 := eW xs hxl
    simp only [A3,A6,Bb,Bc,Cr,Bn,B4,C9,Cu,B5,Cs,Ct,Da,Ci,Be,Bo,Bp,A2,A9,Ba,A5,De,B6,Bm,Bh,A8,A4,Bi,Bg,Bf,Bq,Br,B9,Ca,Bv,C0,Cz,C1,A0,A1,C2,Dd,ofOpt,ofOptS,Bw,Dh,Di,Cj,Cl,Bk,Bl,C4,Bj,Df,A7,Bd,Cm,Cn,Co,Cp,Cq,B3,B1,Nat.reduceLT,Nat.reduceAdd,Nat.reduceEqDiff,Aa,Ab,reduceIte,Ac,Ad,Ae,Af,Ag,Ah,Ai,Aj,Ak,Al,Am,Ao,Ap,Aq,Ar,Au,Av,Aw,Option.toList,Ay,Az,Tryz.f58,Cg,Ch,B7,B8,Do,Dp,fp0,Cb,C3,C8,C7,C6,C5,Dm,Dj,Dk,Cw,Ce,B0,Bt,Cf,Bz,By,Cc,Cd,Bs,Cv,Dq,Db,Dg,Cx,Cy,hf2,rw1]
    refine WX.mono (Wy hts h2p n hn S hp n [a1] j1 _ _ 1 [.agg xs] ho (by simp; omega) (by simp [T.get_set]) (by simp [T.get_set]) c1 hp1 hi1 (.inl rfl) (.cons _ _ _ _ hv9 .nil) x1) ?_
    rintro _ (⟨t9, S9, tok9, es9, l9, i9, rfl, g3, hf9, x9, c9, hi9, hp9, e9⟩ | ⟨t9, S9, a9, e9, rfl, x9, q9⟩)
    · rw [e9]
      simp only [A3,A6,Bb,Bc,Cr,Bn,B4,C9,Cu,B5,Cs,Ct,Da,Ci,Be,Bo,Bp,A2,A9,Ba,A5,De,B6,Bm,Bh,A8,A4,Bi,Bg,Bf,Bq,Br,B9,Ca,Bv,C0,Cz,C1,A0,A1,C2,Dd,ofOpt,ofOptS,Bw,Dh,Di,Cj,Cl,Bk,Bl,C4,Bj,Df,A7,Bd,Cm,Cn,Co,Cp,Cq,B3,B1,Nat.reduceLT,Nat.reduceAdd,Nat.reduceEqDiff,Aa,Ab,reduceIte,Ac,Ad,Ae,Af,Ag,Ah,Ai,Aj,Ak,Al,Am,Ao,Ap,Aq,Ar,Au,Av,Aw,Option.toList,Ay,Az,Tryz.f58,Cg,Ch,B7,B8,Do,Dp,fp0,Cb,C3,C8,C7,C6,C5,Dm,Dj,Dk,Cw,Ce,B0,Bt,Cf,Bz,By,Cc,Cd,Bs,Cv,Dq,Db,Dg,Cx,Cy,hf2,g3]
      exact ⟨_, _, rfl, ⟨tok9, 0, es9, rfl, hf9⟩, x9, c9, hi9⟩
    · rw [q9]
      simp only [A3,A6,Bb,Bc,Cr,Bn,B4,C9,Cu,B5,Cs,Ct,Da,Ci,Be,Bo,Bp,A2,A9,Ba,A5,De,B6,Bm,Bh,A8,A4,Bi,Bg,Bf,Bq,Br,B9,Ca,Bv,C0,Cz,C1,A0,A1,C2,Dd,ofOpt,ofOptS,Bw,Dh,Di,Cj,Cl,Bk,Bl,C4,Bj,Df,A7,Bd,Cm,Cn,Co,Cp,Cq,B3,B1,Nat.reduceLT,Nat.reduceAdd,Nat.reduceEqDiff,Aa,Ab,reduceIte,Ac,Ad,Ae,Af,Ag,Ah,Ai,Aj,Ak,Al,Am,Ao,Ap,Aq,Ar,Au,Av,Aw,Option.toList,Ay,Az,Tryz.f58,Cg,Ch,B7,B8,Do,Dp,fp0,Cb,C3,C8,C7,C6,C5,Dm,Dj,Dk,Cw,Ce,B0,Bt,Cf,Bz,By,Cc,Cd,Bs,Cv,Dq,Db,Dg,Cx,Cy,hf2]
      exact ⟨_, rfl, x9⟩
end
end Go.Ax
