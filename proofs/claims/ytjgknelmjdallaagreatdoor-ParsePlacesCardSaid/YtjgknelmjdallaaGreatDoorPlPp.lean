/-
  A whole text: read.
-/
import Derived.Test.YtjgknelmjdallaaGreatDoorPlPo
noncomputable section
namespace Go.Ax
open Go.RowKit Go.Proofs
set_option linter.unusedVariables false
set_option linter.unusedSimpArgs false
set_option maxRecDepth 100000

theorem fnOk58 : ∃ fn, E1.F 58 = some fn := Option.isSome_iff_exists.1 (by kernel_rfl)
theorem fnOk57 : ∃ fn, E1.F 57 = some fn := Option.isSome_iff_exists.1 (by kernel_rfl)
theorem fnOk25 : ∃ fn, E1.F 25 = some fn := Option.isSome_iff_exists.1 (by kernel_rfl)
theorem fnOk77 : ∃ fn, E1.F 77 = some fn := Option.isSome_iff_exists.1 (by kernel_rfl)
section
variable {p k : Nat} {ts : List Tk} (hts : TokOk ts)
include hts
set_option maxHeartbeats 16000000 in
theorem whole_p (h2p : 2 ≤ p) (n : Nat) (hn : n ≤ 1000000) (S : St) (i : Nat) (h : Cur S p k ts i) (hp : p < S.next) (hi : i < ts.length) (ho : Hk ts n i ≠ .out) : WC E1 57 [.ptr p 0] S (Ku p k ts S dE (Hk ts n i)) := by
  refine Ek Tryz.f57 (by kernel_rfl) (by kernel_rfl) (by kernel_rfl) (show (_ : Nat) ≤ _ from by show (_ : Nat) ≤ _; simp [Tryz.f57]) ?_
  obtain ⟨fn1, hf1⟩ := fnOk58
  simp only [A3,A6,Bb,Bc,Cr,Bn,B4,C9,Cu,B5,Cs,Ct,Da,Ci,Be,Bo,Bp,A2,A9,Ba,A5,De,B6,Bm,Bh,A8,A4,Bi,Bg,Bf,Bq,Br,B9,Ca,Bv,C0,Cz,C1,A0,A1,C2,Dd,ofOpt,ofOptS,Bw,Dh,Di,Cj,Cl,Bk,Bl,C4,Bj,Df,A7,Bd,Cm,Cn,Co,Cp,Cq,B3,B1,Nat.reduceLT,Nat.reduceAdd,Nat.reduceEqDiff,Aa,Ab,reduceIte,Ac,Ad,Ae,Af,Ag,Ah,Ai,Aj,Ak,Al,Am,Ao,Ap,Aq,Ar,Au,Av,Aw,Option.toList,Ay,Az,Tryz.f57,Jt,Cb,F2,G8,hf1]
  refine WC.mono (iI hts h2p n hn S i h hp hi ho) ?_
  cases hX : Hk ts n i with
  | out => exact absurd hX ho
  | bad a e =>
    rintro _ ⟨S4, rfl, x4⟩
    simp only [A3,A6,Bb,Bc,Cr,Bn,B4,C9,Cu,B5,Cs,Ct,Da,Ci,Be,Bo,Bp,A2,A9,Ba,A5,De,B6,Bm,Bh,A8,A4,Bi,Bg,Bf,Bq,Br,B9,Ca,Bv,C0,Cz,C1,A0,A1,C2,Dd,ofOpt,ofOptS,Bw,Dh,Di,Cj,Cl,Bk,Bl,C4,Bj,Df,A7,Bd,Cm,Cn,Co,Cp,Cq,B3,B1,Nat.reduceLT,Nat.reduceAdd,Nat.reduceEqDiff,Aa,Ab,reduceIte,Ac,Ad,Ae,Af,Ag,Ah,Ai,Aj,Ak,Al,Am,Ao,Ap,Aq,Ar,Au,Av,Aw,Option.toList,Ay,Az,Tryz.f57,Jt,Cb,F2,G8]
    exact ⟨_, rfl, x4⟩
  | ok a j =>
    rintro _ ⟨v, S4, rfl, hr, x4, c4, hj⟩
    simp only [A3,A6,Bb,Bc,Cr,Bn,B4,C9,Cu,B5,Cs,Ct,Da,Ci,Be,Bo,Bp,A2,A9,Ba,A5,De,B6,Bm,Bh,A8,A4,Bi,Bg,Bf,Bq,Br,B9,Ca,Bv,C0,Cz,C1,A0,A1,C2,Dd,ofOpt,ofOptS,Bw,Dh,Di,Cj,Cl,Bk,Bl,C4,Bj,Df,A7,Bd,Cm,Cn,Co,Cp,Cq,B3,B1,Nat.reduceLT,Nat.reduceAdd,Nat.reduceEqDiff,Aa,Ab,reduceIte,Ac,Ad,Ae,Af,Ag,Ah,Ai,Aj,Ak,Al,Am,Ao,Ap,Aq,Ar,Au,Av,Aw,Option.toList,Ay,Az,Tryz.f57,Jt,Cb,F2,G8]
    exact ⟨_, _, rfl, hr, x4, c4, hj⟩
end
theorem jM {E : Env} {rs : List ResultVar} {Q : R → Prop} {t : T AV} {S : St} : nL E rs Q (.out .ret ⟨t, []⟩ S) = C4 E rs ⟨t, []⟩ S Q := id rfl
theorem Y6 {E : Env} {rs : List ResultVar} {Q : R → Prop} {t : T AV} {S : St} {k : FuncId} {caps args : List AV} : nL E rs Q (.out .normal ⟨t, [⟨.func k, caps, args⟩]⟩ S) = bI E k (args ++ caps) S none (fun S' => Po E rs ⟨t, [⟨.func k, caps, args⟩]⟩ S' Q) := id rfl
theorem Xj {E : Env} {rs : List ResultVar} {Q : R → Prop} {t : T AV} {S : St} {k : FuncId} {caps args : List AV} {a : AV} : nL E rs Q (.out (.pan a) ⟨t, [⟨.func k, caps, args⟩]⟩ S) = bI E k (args ++ caps) S (some a) (fun S' => Po E rs ⟨t, [⟨.func k, caps, args⟩]⟩ S' Q) := id rfl
theorem ag33 : Fv Tryz.prog 33 = some true := by kernel_rfl
theorem nM (b : Nat) : Dt Tryz.prog 33 (.ptr b 0) 1 = some (.ptr b 1) := by kernel_rfl
theorem ld31f {S : St} {id a e : Nat} (h : S.mem.get id = some (.box (Eo a e))) : Dw Tryz.prog S 31 (.ptr id 1) = some (.v (.int .i64 (e : Int))) := by
  have a31 : Fv Tryz.prog 31 = some false := by kernel_rfl
  simp [Dw, D6, h, a31, Eo, Dy]
theorem b144 (tok : Nat) (es : List AV) : Gk Tryz.prog 144 [(0, .sl tok 0 4 es)] = some (.agg [.sl tok 0 4 es, Dy 0]) := by kernel_rfl
theorem b146t (tok : Nat) (es : List AV) : Gk Tryz.prog 146 [(0, .agg [.sl tok 0 4 es, Dy 0])] = some (.agg [.sl tok 0 4 es, Dy 0]) := by kernel_rfl
/-- What a text is, as the program's call Lo it: nodes, or a fault. -/
def Pj (n : Nat) (out : (Nat × Nat) ⊕ List Tk) : Option (List PN ⊕ (Nat × Nat)) := match out with
  | .inl x => some (.inr x)
  | .inr ts => match Hk ts n 0 with
    | .ok l j => if (tk ts j).kind = 5 then some (.inl l) else some (.inr ((tk ts j).pos, Hx (tk ts j)))
    | .bad a e => some (.inr (a, e))
    | .out => none
def bT (S : St) (x : Option (List PN ⊕ (Nat × Nat))) (r : R) : Prop := match x with
  | some (.inl l) => ∃ v S', r = .ret (.tup [v, .agg (Eo 0 0)]) S' ∧ dE v l ∧ Fg S S'
  | some (.inr y) => ∃ S', r = .ret (.tup [.nils, .agg (Eo y.1 y.2)]) S' ∧ Fg S S'
  | none => True
set_option maxHeartbeats 16000000 in
theorem read_p (l : List UInt8) (S : St) (hS : 2 ≤ S.next) (hsz : l.length ≤ 1000000) (out : (Nat × Nat) ⊕ List Tk) (hlx : Me l = some out) (hx : ∀ x, out = .inl x → x.2 ≠ 0) (n : Nat) (hn : n ≤ 1000000) (hok : ∀ ts, out = .inr ts → TokOk ts ∧ 0 < ts.length ∧ Hk ts n 0 ≠ .out) : WC E1 56 [D5 l, .fn (.func 57) [] []] S (bT S (Pj n out)) := by
  refine WC_dfr Tryz.f56 (by kernel_rfl) (by kernel_rfl) (by kernel_rfl) (show (_ : Nat) ≤ _ from by show (_ : Nat) ≤ _; simp [Tryz.f56]) (Es ?_)
  obtain ⟨fn1, hf1⟩ := fnOk25
  obtain ⟨fn2, hf2⟩ := fnOk57
  obtain ⟨fn3, hf3⟩ := fnOk77
  have k1 := Eb S (Eo 0 0)
  simp only [A3,A6,Bb,Bc,Cr,Bn,B4,C9,Cu,B5,Cs,Ct,Da,Ci,Be,Bo,Bp,A2,A9,Ba,A5,De,B6,Bm,Bh,A8,A4,Bi,Bg,Bf,Bq,Br,B9,Ca,Bv,C0,Cz,C1,A0,A1,C2,Dd,ofOpt,ofOptS,Bw,Dh,Di,Cj,Cl,Bk,Bl,C4,Bj,Df,A7,Bd,Cm,Cn,Co,Cp,Cq,B3,B1,Nat.reduceLT,Nat.reduceAdd,Nat.reduceEqDiff,Aa,Ab,reduceIte,Ac,Ad,Ae,Af,Ag,Ah,Ai,Aj,Ak,Al,Am,Ao,Ap,Aq,Ar,Au,Av,Aw,Option.toList,Ay,Az,Tryz.f56,Jt,Cb,F2,G8,hf1]
  refine WC.mono (all_w l (S.newBox (Eo 0 0)) (Nat.le_succ_of_le hS) hsz out hlx) ?_
  cases out with
  | inl x =>
    rintro _ ⟨S2, rfl, k2⟩
    have hx2 := hx x rfl
    have q1 : Du Tryz.prog (S2.newBox (Eo 0 0)) 33 (.ptr S2.next 0) (.agg (Eo x.1 x.2)) = some ((S2.newBox (Eo 0 0)).put S2.next (Eo x.1 x.2)) := Rw (Ea S2 _) rfl rfl
    have g1 := E9 (S2.newBox (Eo 0 0)) S2.next (Eo x.1 x.2)
    have k3 : Fg S2 ((S2.newBox (Eo 0 0)).put S2.next (Eo x.1 x.2)) := E5 (Eb S2 _) (Nat.le_refl _) _
    generalize hS3 : (S2.newBox (Eo 0 0)).put S2.next (Eo x.1 x.2) = S3 at q1 g1 k3
    have q2 := ld31f g1
    have n1 : (((x.2 : Nat) : Int) != 0) = true := by rw [bne_iff_ne]; omega
    have q3 := ldG ag33 s33 g1 rfl
    have g5 : S3.mem.get S.next = some (.box (Eo 0 0)) := ((k2.trans k3).2 _ (Nat.lt_succ_self _)).trans (Ea S _)
    have q4 : Du Tryz.prog S3 33 (.ptr S.next 0) (.agg (Eo x.1 x.2)) = some (S3.put S.next (Eo x.1 x.2)) := Rw g5 rfl rfl
    have q5 := Jm S3 S.next (Eo x.1 x.2) rfl
    simp only [A3,A6,Bb,Bc,Cr,Bn,B4,C9,Cu,B5,Cs,Ct,Da,Ci,Be,Bo,Bp,A2,A9,Ba,A5,De,B6,Bm,Bh,A8,A4,Bi,Bg,Bf,Bq,Br,B9,Ca,Bv,C0,Cz,C1,A0,A1,C2,Dd,ofOpt,ofOptS,Bw,Dh,Di,Cj,Cl,Bk,Bl,C4,Bj,Df,A7,Bd,Cm,Cn,Co,Cp,Cq,B3,B1,Nat.reduceLT,Nat.reduceAdd,Nat.reduceEqDiff,Aa,Ab,reduceIte,Ac,Ad,Ae,Af,Ag,Ah,Ai,Aj,Ak,Al,Am,Ao,Ap,Aq,Ar,Au,Av,Aw,Option.toList,Ay,Az,Tryz.f56,Jt,Cb,F2,G8,q1,nM,q2,Tv,n1]
    refine K5 [(0, true), (1, true), (2, true), (3, true)] (by kernel_rfl) (by kernel_rfl) ?_
    simp only [A3,A6,Bb,Bc,Cr,Bn,B4,C9,Cu,B5,Cs,Ct,Da,Ci,Be,Bo,Bp,A2,A9,Ba,A5,De,B6,Bm,Bh,A8,A4,Bi,Bg,Bf,Bq,Br,B9,Ca,Bv,C0,Cz,C1,A0,A1,C2,Dd,ofOpt,ofOptS,Bw,Dh,Di,Cj,Cl,Bk,Bl,C4,Bj,Df,A7,Bd,Cm,Cn,Co,Cp,Cq,B3,B1,Nat.reduceLT,Nat.reduceAdd,Nat.reduceEqDiff,Aa,Ab,reduceIte,Ac,Ad,Ae,Af,Ag,Ah,Ai,Aj,Ak,Al,Am,Ao,Ap,Aq,Ar,Au,Av,Aw,Option.toList,Ay,Az,Tryz.f56,Jt,Cb,F2,G8,Dm,Dj,Dk,Cw,Ce,B0,Bt,Cf,Bz,By,Cc,Cd,Bs,Cv,Dq,Db,Dg,Cx,Cy,q3,q4,q5,jM]
    exact ⟨_, rfl, E5 (k1.trans (k2.trans k3)) (Nat.le_refl _) _⟩
  | inr ts =>
    rintro _ ⟨S2, tok, rfl, k2⟩
    obtain ⟨hts, h0, hpo⟩ := hok ts rfl
    have q1 : Du Tryz.prog (S2.newBox (Eo 0 0)) 33 (.ptr S2.next 0) (.agg (Eo 0 0)) = some ((S2.newBox (Eo 0 0)).put S2.next (Eo 0 0)) := Rw (Ea S2 _) rfl rfl
    have g1 := E9 (S2.newBox (Eo 0 0)) S2.next (Eo 0 0)
    have k3 : Fg S2 ((S2.newBox (Eo 0 0)).put S2.next (Eo 0 0)) := E5 (Eb S2 _) (Nat.le_refl _) _
    generalize hS3 : (S2.newBox (Eo 0 0)).put S2.next (Eo 0 0) = S3 at q1 g1 k3
    have q2 := ld31f g1
    have n1 : (((0 : Nat) : Int) != 0) = false := rfl
    have g5 : S3.mem.get S.next = some (.box (Eo 0 0)) := ((k2.trans k3).2 _ (Nat.lt_succ_self _)).trans (Ea S _)
    have l5 : S.next < S3.next := Nat.lt_of_lt_of_le (Nat.lt_succ_self _) (k2.trans k3).1
    have kk := k1.trans (k2.trans k3)
    simp only [A3,A6,Bb,Bc,Cr,Bn,B4,C9,Cu,B5,Cs,Ct,Da,Ci,Be,Bo,Bp,A2,A9,Ba,A5,De,B6,Bm,Bh,A8,A4,Bi,Bg,Bf,Bq,Br,B9,Ca,Bv,C0,Cz,C1,A0,A1,C2,Dd,ofOpt,ofOptS,Bw,Dh,Di,Cj,Cl,Bk,Bl,C4,Bj,Df,A7,Bd,Cm,Cn,Co,Cp,Cq,B3,B1,Nat.reduceLT,Nat.reduceAdd,Nat.reduceEqDiff,Aa,Ab,reduceIte,Ac,Ad,Ae,Af,Ag,Ah,Ai,Aj,Ak,Al,Am,Ao,Ap,Aq,Ar,Au,Av,Aw,Option.toList,Ay,Az,Tryz.f56,Jt,Cb,F2,G8,q1,nM,q2,Tv,n1,b144,b146t,B7,B8,hf2]
    have cu : Cur (S3.newBox [.sl tok 0 4 (ts.map Fm), Dy 0]) S3.next tok ts 0 := Ea S3 _
    have k4 := Eb S3 [.sl tok 0 4 (ts.map Fm), Dy 0]
    have b5 : Has S3.next (S3.newBox [.sl tok 0 4 (ts.map Fm), Dy 0]) S.next (Eo 0 0) := ⟨(k4.2 _ l5).trans g5, Nat.lt_succ_of_lt l5, by omega⟩
    have toK : ∀ S', El S3.next (S3.newBox [.sl tok 0 4 (ts.map Fm), Dy 0]) S' → Fg S3 S' := fun S' x => ⟨Nat.le_trans (Nat.le_succ _) x.1, fun id hid => (x.2 id (Nat.lt_succ_of_lt hid) (by omega)).trans (k4.2 id hid)⟩
    refine WC.mono (whole_p hts (Nat.le_trans hS kk.1) n hn _ 0 cu (Nat.lt_succ_self _) h0 hpo) ?_
    have eR : Pj n (.inr ts) = match Hk ts n 0 with
      | .ok l j => if (tk ts j).kind = 5 then some (.inl l) else some (.inr ((tk ts j).pos, Hx (tk ts j)))
      | .bad a e => some (.inr (a, e))
      | .out => none := rfl
    rw [eR]
    clear eR
    cases hX : Hk ts n 0 with
    | out => exact absurd hX hpo
    | bad a e =>
      rintro _ ⟨S5, rfl, x5⟩
      have b6 := b5.keep x5
      simp only [A3,A6,Bb,Bc,Cr,Bn,B4,C9,Cu,B5,Cs,Ct,Da,Ci,Be,Bo,Bp,A2,A9,Ba,A5,De,B6,Bm,Bh,A8,A4,Bi,Bg,Bf,Bq,Br,B9,Ca,Bv,C0,Cz,C1,A0,A1,C2,Dd,ofOpt,ofOptS,Bw,Dh,Di,Cj,Cl,Bk,Bl,C4,Bj,Df,A7,Bd,Cm,Cn,Co,Cp,Cq,B3,B1,Nat.reduceLT,Nat.reduceAdd,Nat.reduceEqDiff,Aa,Ab,reduceIte,Ac,Ad,Ae,Af,Ag,Ah,Ai,Aj,Ak,Al,Am,Ao,Ap,Aq,Ar,Au,Av,Aw,Option.toList,Ay,Az,Tryz.f56,Jt,Cb,F2,G8,Xj]
      refine Ww S5 S.next a e (Eo 0 0) b6.get rfl b6.lt _ ?_
      intro S6 g6 n6 k6
      have q6 := ldG ag33 s33 g6 rfl
      unfold Po
      simp only [A3,A6,Bb,Bc,Cr,Bn,B4,C9,Cu,B5,Cs,Ct,Da,Ci,Be,Bo,Bp,A2,A9,Ba,A5,De,B6,Bm,Bh,A8,A4,Bi,Bg,Bf,Bq,Br,B9,Ca,Bv,C0,Cz,C1,A0,A1,C2,Dd,ofOpt,ofOptS,Bw,Dh,Di,Cj,Cl,Bk,Bl,C4,Bj,Df,A7,Bd,Cm,Cn,Co,Cp,Cq,B3,B1,Nat.reduceLT,Nat.reduceAdd,Nat.reduceEqDiff,Aa,Ab,reduceIte,Ac,Ad,Ae,Af,Ag,Ah,Ai,Aj,Ak,Al,Am,Ao,Ap,Aq,Ar,Au,Av,Aw,Option.toList,Ay,Az,Tryz.f56,Jt,Cb,F2,G8,q6]
      refine ⟨_, rfl, Nat.le_trans (kk.trans (toK S5 x5)).1 n6, fun id hid => ?_⟩
      rw [k6 id (Nat.lt_of_lt_of_le hid (kk.trans (toK S5 x5)).1) (by omega)]
      exact (kk.trans (toK S5 x5)).2 id hid
    | ok l j =>
      rintro _ ⟨v, S5, rfl, hv, x5, c5, hj⟩
      have b6 := b5.keep x5
      simp only [A3,A6,Bb,Bc,Cr,Bn,B4,C9,Cu,B5,Cs,Ct,Da,Ci,Be,Bo,Bp,A2,A9,Ba,A5,De,B6,Bm,Bh,A8,A4,Bi,Bg,Bf,Bq,Br,B9,Ca,Bv,C0,Cz,C1,A0,A1,C2,Dd,ofOpt,ofOptS,Bw,Dh,Di,Cj,Cl,Bk,Bl,C4,Bj,Df,A7,Bd,Cm,Cn,Co,Cp,Cq,B3,B1,Nat.reduceLT,Nat.reduceAdd,Nat.reduceEqDiff,Aa,Ab,reduceIte,Ac,Ad,Ae,Af,Ag,Ah,Ai,Aj,Ak,Al,Am,Ao,Ap,Aq,Ar,Au,Av,Aw,Option.toList,Ay,Az,Tryz.f56,Jt,Cb,F2,G8,fp0,hf3]
      refine WC.mono (end_w S5 _ _ ts j c5 (Nat.lt_of_lt_of_le (Nat.lt_succ_self _) x5.1) hj) ?_
      rintro _ ⟨S6, k6, ⟨h5, rfl⟩ | ⟨h5, rfl⟩⟩
      · rw [show (if (tk ts j).kind = 5 then some (.inl l) else some (.inr ((tk ts j).pos, Hx (tk ts j))) : Option (List PN ⊕ (Nat × Nat))) = some (.inl l) from if_pos h5]
        have b7 := b6.keep (k6.x _)
        have q7 : Du Tryz.prog S6 33 (.ptr S.next 0) (.agg (Eo 0 0)) = some (S6.put S.next (Eo 0 0)) := Rw b7.get rfl rfl
        have q8 := Jm S6 S.next (Eo 0 0) rfl
        simp only [A3,A6,Bb,Bc,Cr,Bn,B4,C9,Cu,B5,Cs,Ct,Da,Ci,Be,Bo,Bp,A2,A9,Ba,A5,De,B6,Bm,Bh,A8,A4,Bi,Bg,Bf,Bq,Br,B9,Ca,Bv,C0,Cz,C1,A0,A1,C2,Dd,ofOpt,ofOptS,Bw,Dh,Di,Cj,Cl,Bk,Bl,C4,Bj,Df,A7,Bd,Cm,Cn,Co,Cp,Cq,B3,B1,Nat.reduceLT,Nat.reduceAdd,Nat.reduceEqDiff,Aa,Ab,reduceIte,Ac,Ad,Ae,Af,Ag,Ah,Ai,Aj,Ak,Al,Am,Ao,Ap,Aq,Ar,Au,Av,Aw,Option.toList,Ay,Az,Tryz.f56,Jt,Cb,F2,G8,b33_0,q7,Y6]
        refine iD _ S.next _ ?_
        unfold Po
        simp only [A3,A6,Bb,Bc,Cr,Bn,B4,C9,Cu,B5,Cs,Ct,Da,Ci,Be,Bo,Bp,A2,A9,Ba,A5,De,B6,Bm,Bh,A8,A4,Bi,Bg,Bf,Bq,Br,B9,Ca,Bv,C0,Cz,C1,A0,A1,C2,Dd,ofOpt,ofOptS,Bw,Dh,Di,Cj,Cl,Bk,Bl,C4,Bj,Df,A7,Bd,Cm,Cn,Co,Cp,Cq,B3,B1,Nat.reduceLT,Nat.reduceAdd,Nat.reduceEqDiff,Aa,Ab,reduceIte,Ac,Ad,Ae,Af,Ag,Ah,Ai,Aj,Ak,Al,Am,Ao,Ap,Aq,Ar,Au,Av,Aw,Option.toList,Ay,Az,Tryz.f56,Jt,Cb,F2,G8,q8]
        exact ⟨v, _, rfl, hv, E5 (kk.trans ((toK S5 x5).trans k6)) (Nat.le_refl _) _⟩
      · rw [show (if (tk ts j).kind = 5 then some (.inl l) else some (.inr ((tk ts j).pos, Hx (tk ts j))) : Option (List PN ⊕ (Nat × Nat))) = some (.inr ((tk ts j).pos, Hx (tk ts j))) from if_neg h5]
        have b7 := b6.keep (k6.x _)
        simp only [A3,A6,Bb,Bc,Cr,Bn,B4,C9,Cu,B5,Cs,Ct,Da,Ci,Be,Bo,Bp,A2,A9,Ba,A5,De,B6,Bm,Bh,A8,A4,Bi,Bg,Bf,Bq,Br,B9,Ca,Bv,C0,Cz,C1,A0,A1,C2,Dd,ofOpt,ofOptS,Bw,Dh,Di,Cj,Cl,Bk,Bl,C4,Bj,Df,A7,Bd,Cm,Cn,Co,Cp,Cq,B3,B1,Nat.reduceLT,Nat.reduceAdd,Nat.reduceEqDiff,Aa,Ab,reduceIte,Ac,Ad,Ae,Af,Ag,Ah,Ai,Aj,Ak,Al,Am,Ao,Ap,Aq,Ar,Au,Av,Aw,Option.toList,Ay,Az,Tryz.f56,Jt,Cb,F2,G8,Xj]
        refine Ww S6 S.next (tk ts j).pos (Hx (tk ts j)) (Eo 0 0) b7.get rfl b7.lt _ ?_
        intro S7 g7 n7 k7
        have q9 := ldG ag33 s33 g7 rfl
        unfold Po
        simp only [A3,A6,Bb,Bc,Cr,Bn,B4,C9,Cu,B5,Cs,Ct,Da,Ci,Be,Bo,Bp,A2,A9,Ba,A5,De,B6,Bm,Bh,A8,A4,Bi,Bg,Bf,Bq,Br,B9,Ca,Bv,C0,Cz,C1,A0,A1,C2,Dd,ofOpt,ofOptS,Bw,Dh,Di,Cj,Cl,Bk,Bl,C4,Bj,Df,A7,Bd,Cm,Cn,Co,Cp,Cq,B3,B1,Nat.reduceLT,Nat.reduceAdd,Nat.reduceEqDiff,Aa,Ab,reduceIte,Ac,Ad,Ae,Af,Ag,Ah,Ai,Aj,Ak,Al,Am,Ao,Ap,Aq,Ar,Au,Av,Aw,Option.toList,Ay,Az,Tryz.f56,Jt,Cb,F2,G8,q9]
        have ka := kk.trans ((toK S5 x5).trans k6)
        refine ⟨_, rfl, Nat.le_trans ka.1 n7, fun id hid => ?_⟩
        rw [k7 id (Nat.lt_of_lt_of_le hid ka.1) (by omega)]
        exact ka.2 id hid
end Go.Ax
