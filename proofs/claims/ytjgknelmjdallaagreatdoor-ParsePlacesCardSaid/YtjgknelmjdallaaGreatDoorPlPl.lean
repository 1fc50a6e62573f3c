/-
  What the parser Lo: a node's equations.
-/
import Derived.Test.YtjgknelmjdallaaGreatDoorPlPk
noncomputable section
namespace Go.Ax
open Go.RowKit Go.Proofs
set_option linter.unusedVariables false
set_option linter.unusedSimpArgs false
set_option maxRecDepth 100000

theorem fnOk128 : ∃ fn, E1.F 128 = some fn := Option.isSome_iff_exists.1 (by kernel_rfl)
inductive EqRows : List AV → List PQ → Prop where
  | nil : EqRows [] []
  | cons (a : AV) (q : PQ) (r : List AV) (l : List PQ) (h : iZ a q) (h2 : EqRows r l) : EqRows (a :: r) (q :: l)
theorem EqRows.app : ∀ {es : List AV} {l : List PQ} {a : AV} {e : PQ}, EqRows es l → iZ a e → EqRows (es ++ [a]) (l ++ [e]) := fun {es l a e} h h2 => by
  induction es generalizing l with
  | nil => cases h; exact .cons _ _ _ _ h2 .nil
  | cons x r ih => cases h with
    | cons _ e2 _ l2 h3 h4 => exact .cons _ _ _ _ h3 (ih h4)
theorem EqRows.len : ∀ {es : List AV} {l : List PQ}, EqRows es l → es.length = l.length := fun {es l} h => by
  induction es generalizing l with
  | nil => cases h; rfl
  | cons a r ih => cases h with
    | cons _ e _ l2 h h2 => simp [ih h2]
/-- The row of equations so far: none yet, or one that can be appended to. -/
def Sj (lo : Nat) (S : St) (a : AV) (es : List AV) : Prop := (a = .nils ∧ es = []) ∨ ∃ tok, a = .sl tok 0 8 es ∧ 2 ≤ tok ∧ lo ≤ tok ∧ tok < S.next ∧ S.mem.get tok = some (.tip (es.length * 8))
theorem Sj.keep {lo p : Nat} {S S' : St} {a : AV} {es : List AV} (h : Sj lo S a es) (k : El p S S') (hp : p < lo) : Sj lo S' a es := by
  rcases h with h | ⟨tok, h0, h1, h2, h3, h4⟩
  · exact .inl h
  · exact .inr ⟨tok, h0, h1, h2, Nat.lt_of_lt_of_le h3 k.1, by rw [k.2 tok h3 (by omega)]; exact h4⟩
theorem Sj.put {lo : Nat} {S : St} {a : AV} {es : List AV} (h : Sj lo S a es) {b : Nat} {cs ys : List AV} (hb : S.mem.get b = some (.box cs)) : Sj lo (S.put b ys) a es := by
  rcases h with h | ⟨tok, h0, h1, h2, h3, h4⟩
  · exact .inl h
  · refine .inr ⟨tok, h0, h1, h2, h3, ?_⟩
    rw [Fx (fun e => by subst e; rw [h4] at hb; cases hb)]
    exact h4
theorem i57 : (Tryz.prog.info? 57).map (fun i => (i.zero, i.size, i.bytes)) = some (some (.agg #[.slice none 0 0, .bool false, .int .i64 0, .int .i64 0, .int .i64 0, .string ⟨#[]⟩, .bool false, .slice none 0 0]), 8, 104) := by kernel_rfl
theorem nR : Gu Tryz.prog 47 = some (none, 57) := by kernel_rfl
theorem un47 : Tryz.prog.underlying 47 = some (.slice 57) := by kernel_rfl
theorem zr57 : Jy Tryz.prog 57 = some (.agg bZ) := by kernel_rfl
theorem row47_1 (xs : List AV) (hx : xs.length = 8) : D3 Tryz.prog 47 1 [(0, .agg xs)] = some (.sl 1 0 8 [.agg xs]) := by
  simp [D3, nR, X6, zr57, B7, B8, hx]
theorem app47 (S : St) (a b : AV) : G6 E1 S 47 47 a b = (match Hl Tryz.prog S 47 47 false a b with | some r => some r | none => Fp Tryz.prog S 47 47 a b) := rfl
theorem push47 {lo : Nat} {S : St} {a : AV} {es : List AV} (h : Sj lo S a es) (hn : 2 ≤ S.next) (hlo : lo ≤ S.next) (xs : List AV) (hx : xs.length = 8) (hl : es.length ≤ 2000000) :
    ∃ S', G6 E1 S 47 47 a (.sl 1 0 8 [.agg xs]) = some (.sl S.next 0 8 (es ++ [.agg xs]), S') ∧ Sj lo S' (.sl S.next 0 8 (es ++ [.agg xs])) (es ++ [.agg xs]) ∧ S.next < S'.next ∧ ∀ id, id < lo ∨ (∃ cs, id < S.next ∧ S.mem.get id = some (.box cs)) → S'.mem.get id = S.mem.get id := by
  obtain ⟨i, hi, hz0, hz1, hz2⟩ := Gg i57
  have hb1 : (es.length + 1) * 104 ≤ 140737488355328 := by omega
  have hb2 : es.length + 1 ≤ 9223372036854775807 := by omega
  rw [app47]
  rcases h with ⟨rfl, rfl⟩ | ⟨tok, rfl, h1, h2, h3, h5⟩
  · have hM : Hl Tryz.prog S 47 47 false .nils (.sl 1 0 8 [.agg xs]) = none := by
      simp [Hl, nR, hi, hz0, hz1, hz2, Kh, un47, Value.cells]
    rw [hM]
    refine ⟨S.grown 1 (([] ++ [AV.agg xs]).length * 8), ?_, .inr ⟨_, rfl, hn, hlo, Nat.lt_succ_self _, ?_⟩, Nat.lt_succ_self _, fun id hid => ?_⟩
    · simp [Fp, nR, hi, hz0, hz1, hz2, Kh, un47, Value.cells]
    · show (S.mem.set S.next _).get S.next = _
      rw [T.get_set, if_pos rfl]
    · show (S.mem.set S.next _).get id = _
      rw [T.get_set, if_neg (by rcases hid with h | ⟨_, h, _⟩ <;> omega)]
  · obtain ⟨k, rfl⟩ : ∃ k, tok = k + 2 := ⟨tok - 2, by omega⟩
    have hM : Hl Tryz.prog S 47 47 false (.sl (k + 2) 0 8 es) (.sl 1 0 8 [.agg xs]) = none := by
      simp [Hl, nR, hi, hz0, hz1, hz2, Kh, un47, Value.cells]
    rw [hM]
    refine ⟨S.grown (k + 2) ((es ++ [AV.agg xs]).length * 8), ?_, .inr ⟨_, rfl, hn, hlo, Nat.lt_succ_self _, ?_⟩, Nat.lt_succ_self _, fun id hid => ?_⟩
    · simp [Fp, nR, hi, hz0, hz1, hz2, Kh, un47, Value.cells, Lj, h5, hb1, hb2]
    · show ((S.mem.set (k + 2) none).set S.next _).get S.next = _
      rw [T.get_set, if_pos rfl]
    · show ((S.mem.set (k + 2) none).set S.next _).get id = _
      rw [T.get_set, if_neg (by rcases hid with h | ⟨_, h, _⟩ <;> omega), T.get_set, if_neg (fun e => by
        subst e
        rcases hid with h | ⟨_, _, h⟩
        · omega
        · rw [h5] at h; cases h)]
/-- A node. -/
structure PN where
  name : List UInt8
  pos : Nat
  ins : List PD
  outs : List PD
  vars : List PD
  eqs : List PQ
def Gm (nm : List UInt8) (pos : Nat) (a b c d : AV) : List AV := [D5 nm, Dy pos, a, b, c, d]
theorem jY : Fv Tryz.prog 49 = some true := by kernel_rfl
theorem V8 : Fj Tryz.prog 49 = some 6 := by kernel_rfl
def V7 : List AV := Gm [] 0 .nils .nils .nils .nils
theorem I2 (S : St) : Hr Tryz.prog S 49 = some (.ptr S.next 0, S.newBox V7) := by kernel_rfl
theorem fn5 (b : Nat) : Dt Tryz.prog 49 (.ptr b 0) 5 = some (.ptr b 5) := by kernel_rfl
theorem Yu {S : St} {id : Nat} {nm : List UInt8} {pos : Nat} {a b c d : AV} (h : S.mem.get id = some (.box (Gm nm pos a b c d))) : Dw Tryz.prog S 47 (.ptr id 5) = some d := by
  have a47 : Fv Tryz.prog 47 = some false := by kernel_rfl
  simp [Dw, D6, h, a47, Gm]
theorem st49_5 {S : St} {id : Nat} {nm : List UInt8} {pos : Nat} {a b c d : AV} (h : S.mem.get id = some (.box (Gm nm pos a b c d))) (tok off : Nat) (es : List AV) : Du Tryz.prog S 47 (.ptr id 5) (.sl tok off 8 es) = some (S.put id (Gm nm pos a b c (.sl tok off 8 es))) := by
  have h2 : (AV.sl tok off 8 es).noTup = true := rfl
  have h3 : (AV.sl tok off 8 es).cells = [.sl tok off 8 es] := rfl
  have s47 : Fj Tryz.prog 47 = some 1 := by kernel_rfl
  simp [Du, h, s47, h2, h3, St.put, Gm]
def Y9 (ts : List Tk) (N : Nat) : Nat → List PQ → Nat → PR (List PQ)
  | 0, _, _ => .out
  | n + 1, l, i => if (tk ts i).text ∈ [[116, 101, 108]] then .ok l i else (eqP ts N i).bind fun q j => Y9 ts N n (l ++ [q]) j
noncomputable def L6 : Code := match Tryz.f90.body with
  | some (.seq _ (.seq _ (.seq _ (.seq _ (.seq _ (.seq _ (.seq _ (.seq _ (.seq _ (.seq (.block _ (.loop c)) _)))))))))) => c
  | some (.seq _ (.seq _ (.seq _ (.seq _ (.seq _ (.seq _ (.seq _ (.seq _ (.seq _ (.seq _ (.seq (.block _ (.loop c)) _))))))))))) => c
  | some (.seq _ (.seq _ (.seq _ (.seq _ (.seq _ (.seq _ (.seq _ (.seq _ (.seq _ (.seq _ (.seq _ (.seq (.block _ (.loop c)) _)))))))))))) => c
  | _ => .skip
theorem dD {v : AV} {l : List (List UInt8 × Nat)} (h : J1 2 Gc v l) : Gt v v = true := by
  rcases h with ⟨rfl, _⟩ | ⟨tok, off, rfl⟩
  · rfl
  · have e : Ly (l.map Gc) (l.map Gc) = true := by
      induction l with
      | nil => rfl
      | cons a r ih => simp [Ly, ih, Gt, Gc, Hq, D5, Dy, eqS, Io]
    simp [Gt, e]
theorem iZ.refl {v : AV} {q : PQ} (h : iZ v q) : Gt v v = true := by
  obtain ⟨lv, xs, rfl, h1, h2, h3⟩ := h
  simp [eqC, Gt, Ly, dD h1, oM h3, eqS]
theorem EqRows.refl : ∀ {es : List AV} {l : List PQ}, EqRows es l → Ly es es = true := fun {es l} h => by
  induction es generalizing l with
  | nil => rfl
  | cons a r ih => cases h with
    | cons _ e _ l2 h h2 => simp [Ly, h.refl, ih h2]
theorem Sj.refl {lo : Nat} {S : St} {a : AV} {es : List AV} {l : List PQ} (h : Sj lo S a es) (h2 : EqRows es l) : Gt a a = true := by
  rcases h with ⟨rfl, _⟩ | ⟨tok, rfl, _⟩
  · rfl
  · simp [Gt, h2.refl]
def LoopEqs (p k : Nat) (ts : List Tk) (S0 : St) (rb b4 : Nat) (nm : List UInt8) (pos : Nat) (a b c : AV) (x : PR (List PQ)) (r : O) : Prop :=
  (∃ t' S' d es l i', r = .out (.exit 0) ⟨t', []⟩ S' ∧ t'.get 0 = some (.ptr p 0) ∧ t'.get 2 = some (.ptr rb 0) ∧ t'.get 4 = some (.ptr b4 0) ∧ Has p S' rb V7 ∧ Has p S' b4 (Gm nm pos a b c d) ∧ Sj S0.next S' d es ∧ EqRows es l ∧ El p S0 S' ∧ Cur S' p k ts i' ∧ i' < ts.length ∧ p < S'.next ∧ x = .ok l i') ∨
  (∃ t' S' a e, r = .out (.pan (Q3 a e)) ⟨t', []⟩ S' ∧ El p S0 S' ∧ x = .bad a e)
section
variable {p k : Nat} {ts : List Tk} (hts : TokOk ts)
include hts
set_option maxHeartbeats 16000000 in
theorem Vj (h2p : 2 ≤ p) (N : Nat) (hN : N ≤ 1000000) (S0 : St) (hp0 : p < S0.next) (rb b4 : Nat) (hrb : S0.next ≤ rb) (hb4 : S0.next ≤ b4) (hne : b4 ≠ rb) (nm : List UInt8) (pos : Nat) (a b c : AV) : ∀ (n : Nat) (l : List PQ) (i : Nat) (t : T AV) (S : St) (d : AV) (es : List AV), Y9 ts N n l i ≠ .out → n + l.length ≤ 2000000 →
    t.get 0 = some (.ptr p 0) → t.get 2 = some (.ptr rb 0) → t.get 4 = some (.ptr b4 0) → Cur S p k ts i → p < S.next → i < ts.length → Has p S rb V7 → Has p S b4 (Gm nm pos a b c d) → Sj S0.next S d es → EqRows es l → El p S0 S →
    WX E1 72 (.loop L6) ⟨t, []⟩ S (LoopEqs p k ts S0 rb b4 nm pos a b c (Y9 ts N n l i))
  | 0, l, i, t, S, d, es, ho, hnl, h0, h2, h4, h, hp, hi, hr, hb, hq, hf, hx => absurd rfl ho
  | n + 1, l, i, t, S, d, es, ho, hnl, h0, h2, h4, h, hp, hi, hr, hb, hq, hf, hx => by
    refine Fc (Es ?_)
    obtain ⟨fn1, hf1⟩ := Oq
    obtain ⟨fn2, hf2⟩ := fnOk128
    have eP : Y9 ts N (n + 1) l i = if (tk ts i).text ∈ [[116, 101, 108]] then .ok l i else (eqP ts N i).bind fun q j => Y9 ts N n (l ++ [q]) j := rfl
    rw [eP] at ho ⊢
    clear eP
    have e0 := Iu hi

    simp only [A3,A6,Bb,Bc,Cr,Bn,B4,C9,Cu,B5,Cs,Ct,Da,Ci,Be,Bo,Bp,A2,A9,Ba,A5,De,B6,Bm,Bh,A8,A4,Bi,Bg,Bf,Bq,Br,B9,Ca,Bv,C0,Cz,C1,A0,A1,C2,Dd,ofOpt,ofOptS,Bw,Dh,Di,Cj,Cl,Bk,Bl,C4,Bj,Df,A7,Bd,Cm,Cn,Co,Cp,Cq,B3,B1,Nat.reduceLT,Nat.reduceAdd,Nat.reduceEqDiff,Aa,Ab,reduceIte,Ac,Ad,Ae,Af,Ag,Ah,Ai,Aj,Ak,Al,Am,Ao,Ap,Aq,Ar,Au,Av,Aw,Option.toList,Ay,Az,Tryz.f90,Cg,Ch,B7,B8,Do,Dp,fp0,Cb,C3,C8,C7,C6,C5,Dm,Dj,Dk,Cw,Ce,B0,Bt,Cf,Bz,By,Cc,Cd,Bs,Cv,Dq,Db,Dg,Cx,Cy,hf1,hf2,h0,h2,h4,L6,fn5]
    refine WC.mono (Ll _ p k ts i h hp hi 1 0 [[116, 101, 108]] (by decide)) ?_
    rintro _ ⟨S1, rfl, k1⟩
    have x1 := k1.x p
    have c1 := h.keep hp k1
    have hp1 : p < S1.next := Nat.lt_of_lt_of_le hp x1.1
    have y2 := (hx).trans x1
    have br_2 := hr.keep x1
    have bd_2 := hb.keep x1
    rw [← e0]
    by_cases hm : (tk ts i).text ∈ [[116, 101, 108]]
    · rw [if_pos hm]
      rw [decide_eq_true hm]
      simp only [A3,A6,Bb,Bc,Cr,Bn,B4,C9,Cu,B5,Cs,Ct,Da,Ci,Be,Bo,Bp,A2,A9,Ba,A5,De,B6,Bm,Bh,A8,A4,Bi,Bg,Bf,Bq,Br,B9,Ca,Bv,C0,Cz,C1,A0,A1,C2,Dd,ofOpt,ofOptS,Bw,Dh,Di,Cj,Cl,Bk,Bl,C4,Bj,Df,A7,Bd,Cm,Cn,Co,Cp,Cq,B3,B1,Nat.reduceLT,Nat.reduceAdd,Nat.reduceEqDiff,Aa,Ab,reduceIte,Ac,Ad,Ae,Af,Ag,Ah,Ai,Aj,Ak,Al,Am,Ao,Ap,Aq,Ar,Au,Av,Aw,Option.toList,Ay,Az,Tryz.f90,Cg,Ch,B7,B8,Do,Dp,fp0,Cb,C3,C8,C7,C6,C5,Dm,Dj,Dk,Cw,Ce,B0,Bt,Cf,Bz,By,Cc,Cd,Bs,Cv,Dq,Db,Dg,Cx,Cy,hf1,hf2,h0,h2,h4,L6,fn5]
      exact .inl ⟨_, _, d, es, l, i, rfl, by simp [T.get_set, h0], by simp [T.get_set, h2], by simp [T.get_set, h4], br_2, bd_2, hq.keep x1 hp0, hf, y2, c1, hi, hp1, rfl⟩
    · rw [if_neg hm] at ho ⊢
      rw [decide_eq_false hm]
      simp only [A3,A6,Bb,Bc,Cr,Bn,B4,C9,Cu,B5,Cs,Ct,Da,Ci,Be,Bo,Bp,A2,A9,Ba,A5,De,B6,Bm,Bh,A8,A4,Bi,Bg,Bf,Bq,Br,B9,Ca,Bv,C0,Cz,C1,A0,A1,C2,Dd,ofOpt,ofOptS,Bw,Dh,Di,Cj,Cl,Bk,Bl,C4,Bj,Df,A7,Bd,Cm,Cn,Co,Cp,Cq,B3,B1,Nat.reduceLT,Nat.reduceAdd,Nat.reduceEqDiff,Aa,Ab,reduceIte,Ac,Ad,Ae,Af,Ag,Ah,Ai,Aj,Ak,Al,Am,Ao,Ap,Aq,Ar,Au,Av,Aw,Option.toList,Ay,Az,Tryz.f90,Cg,Ch,B7,B8,Do,Dp,fp0,Cb,C3,C8,C7,C6,C5,Dm,Dj,Dk,Cw,Ce,B0,Bt,Cf,Bz,By,Cc,Cd,Bs,Cv,Dq,Db,Dg,Cx,Cy,hf1,hf2,h0,h2,h4,L6,fn5]
      refine K5 [(0, true), (1, true), (2, true), (3, true), (1, false), (4, true), (5, true), (6, true), (7, true)] (by kernel_rfl) (by kernel_rfl) ?_
      have ld1 := Yu bd_2.get
      simp only [A3,A6,Bb,Bc,Cr,Bn,B4,C9,Cu,B5,Cs,Ct,Da,Ci,Be,Bo,Bp,A2,A9,Ba,A5,De,B6,Bm,Bh,A8,A4,Bi,Bg,Bf,Bq,Br,B9,Ca,Bv,C0,Cz,C1,A0,A1,C2,Dd,ofOpt,ofOptS,Bw,Dh,Di,Cj,Cl,Bk,Bl,C4,Bj,Df,A7,Bd,Cm,Cn,Co,Cp,Cq,B3,B1,Nat.reduceLT,Nat.reduceAdd,Nat.reduceEqDiff,Aa,Ab,reduceIte,Ac,Ad,Ae,Af,Ag,Ah,Ai,Aj,Ak,Al,Am,Ao,Ap,Aq,Ar,Au,Av,Aw,Option.toList,Ay,Az,Tryz.f90,Cg,Ch,B7,B8,Do,Dp,fp0,Cb,C3,C8,C7,C6,C5,Dm,Dj,Dk,Cw,Ce,B0,Bt,Cf,Bz,By,Cc,Cd,Bs,Cv,Dq,Db,Dg,Cx,Cy,hf1,hf2,h0,h2,h4,L6,fn5,ld1]
      have ne1 := Fi ho
      refine WC.mono (eq_p hts h2p N hN _ _ c1 hp1 hi ne1) ?_
      cases hX3 : eqP ts N i with
      | out => exact absurd hX3 ne1
      | bad a e =>
        rintro _ ⟨S3, rfl, x3⟩
        simp only [A3,A6,Bb,Bc,Cr,Bn,B4,C9,Cu,B5,Cs,Ct,Da,Ci,Be,Bo,Bp,A2,A9,Ba,A5,De,B6,Bm,Bh,A8,A4,Bi,Bg,Bf,Bq,Br,B9,Ca,Bv,C0,Cz,C1,A0,A1,C2,Dd,ofOpt,ofOptS,Bw,Dh,Di,Cj,Cl,Bk,Bl,C4,Bj,Df,A7,Bd,Cm,Cn,Co,Cp,Cq,B3,B1,Nat.reduceLT,Nat.reduceAdd,Nat.reduceEqDiff,Aa,Ab,reduceIte,Ac,Ad,Ae,Af,Ag,Ah,Ai,Aj,Ak,Al,Am,Ao,Ap,Aq,Ar,Au,Av,Aw,Option.toList,Ay,Az,Tryz.f90,Cg,Ch,B7,B8,Do,Dp,fp0,Cb,C3,C8,C7,C6,C5,Dm,Dj,Dk,Cw,Ce,B0,Bt,Cf,Bz,By,Cc,Cd,Bs,Cv,Dq,Db,Dg,Cx,Cy,hf1,hf2,h0,h2,h4,L6,fn5,ld1]
        exact .inr ⟨_, _, _, _, rfl, y2.trans x3, rfl⟩
      | ok a3 j3 =>
        rw [hX3] at ho; rw [Ds] at ho ⊢
        rintro _ ⟨_, S3, rfl, ⟨lv, xs, rfl, hlv, hxl, hrx⟩, x3, c3, hi3⟩
        have hp3 : p < S3.next := Nat.lt_of_lt_of_le hp1 x3.1
        have y4 := (y2).trans x3
        have br_4 := br_2.keep x3
        have bd_4 := bd_2.keep x3
        have hxq : (eqC lv a3.async xs).length = 8 := by simp [eqC, hxl]
        have ld2 := Yu bd_4.get
        have bq := hq.refl hf
        have rw1 := row47_1 (eqC lv a3.async xs) hxq
        have hq2 : Sj S0.next S3 d es := hq.keep ((x1).trans x3) hp0
        have hle := y4.1
        obtain ⟨S5, a5, r5, n5, k5⟩ := push47 hq2 (by omega) hle (eqC lv a3.async xs) hxq (by rw [hf.len]; omega)
        have st1 := st49_5 (S := S5) ((k5 b4 (.inr ⟨_, bd_4.lt, bd_4.get⟩)).trans bd_4.get) S3.next 0 (es ++ [.agg (eqC lv a3.async xs)])
        have hb9 : Has p S5 b4 (Gm nm pos a b c d) := ⟨(k5 b4 (.inr ⟨_, bd_4.lt, bd_4.get⟩)).trans bd_4.get, Nat.lt_trans bd_4.lt n5, bd_4.ne⟩
        have hr9 : Has p S5 rb V7 := ⟨(k5 rb (.inr ⟨_, br_4.lt, br_4.get⟩)).trans br_4.get, Nat.lt_trans br_4.lt n5, br_4.ne⟩
        have z9 : El p S0 S5 := ⟨Nat.le_trans hle (Nat.le_of_lt n5), fun id hid hn => (k5 id (.inl hid)).trans (y4.2 id hid hn)⟩
        have c9 : Cur S5 p k ts j3 := (k5 p (.inl hp0)).trans c3
        obtain ⟨px, pc, pb, pr⟩ := Pe (ys := Gm nm pos a b c (.sl S3.next 0 8 (es ++ [.agg (eqC lv a3.async xs)]))) z9 hb4 hb9 c9 hr9 hne
        simp only [A3,A6,Bb,Bc,Cr,Bn,B4,C9,Cu,B5,Cs,Ct,Da,Ci,Be,Bo,Bp,A2,A9,Ba,A5,De,B6,Bm,Bh,A8,A4,Bi,Bg,Bf,Bq,Br,B9,Ca,Bv,C0,Cz,C1,A0,A1,C2,Dd,ofOpt,ofOptS,Bw,Dh,Di,Cj,Cl,Bk,Bl,C4,Bj,Df,A7,Bd,Cm,Cn,Co,Cp,Cq,B3,B1,Nat.reduceLT,Nat.reduceAdd,Nat.reduceEqDiff,Aa,Ab,reduceIte,Ac,Ad,Ae,Af,Ag,Ah,Ai,Aj,Ak,Al,Am,Ao,Ap,Aq,Ar,Au,Av,Aw,Option.toList,Ay,Az,Tryz.f90,Cg,Ch,B7,B8,Do,Dp,fp0,Cb,C3,C8,C7,C6,C5,Dm,Dj,Dk,Cw,Ce,B0,Bt,Cf,Bz,By,Cc,Cd,Bs,Cv,Dq,Db,Dg,Cx,Cy,hf1,hf2,h0,h2,h4,L6,fn5,ld1,ld2,bq,rw1,a5,st1]
        exact Vj h2p N hN S0 hp0 rb b4 hrb hb4 hne nm pos a b c n _ _ _ _ _ _ ho (by rw [List.length_append]; simp; omega) (by simp [T.get_set, h0]) (by simp [T.get_set, h2]) (by simp [T.get_set, h4]) pc (Nat.lt_trans hp3 n5) hi3 pr pb (r5.put hb9.get) (hf.app ⟨lv, xs, rfl, hlv, hxl, hrx⟩) px
end
end Go.Ax
