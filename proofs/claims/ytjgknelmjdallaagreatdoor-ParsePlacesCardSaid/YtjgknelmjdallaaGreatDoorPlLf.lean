/-
  All tokens of a text: reasoned over.
-/
import Derived.Test.YtjgknelmjdallaaGreatDoorPlLd2
noncomputable section
namespace Go.Ax
open Go.RowKit Go.Proofs
set_option linter.unusedVariables false
set_option linter.unusedSimpArgs false
set_option maxRecDepth 100000

/-- The tokens from a place on: the first that can't be (where, why), or all; nothing is said of numbers that are too large for 64 bits. -/
def O3 (l : List UInt8) : Nat → Nat → Option ((Nat × Nat) ⊕ List Tk)
  | 0, _ => none
  | n + 1, i => if i < l.length then (match Jk (l.drop i) i with
      | none => none
      | some p => if p.2 = 0 then (match O3 l n (i + p.1.text.length + Je (l.length + 1) (l.drop (i + p.1.text.length))) with
          | none => none
          | some (.inl x) => some (.inl x)
          | some (.inr ts) => some (.inr (p.1 :: ts))) else some (.inl (i, p.2)))
    else some (.inr [⟨5, l.length, [], 0⟩])
def Me (l : List UInt8) : Option ((Nat × Nat) ⊕ List Tk) := if 4000 < l.length then some (.inl (4000, 3)) else O3 l (l.length + 1) (Je (l.length + 1) l)
theorem Zt {s l : List UInt8} (h : G5 s l = true) : s.length ≤ l.length := by
  unfold G5 at h
  rw [decide_eq_true_iff] at h
  have := congrArg List.length h
  simp at this; omega
theorem Qu {l : List UInt8} {i : Nat} {t : Tk} (h : Jk l i = some (t, 0)) : t.text.length ≤ l.length := by
  unfold Jk at h
  split at h
  · cases h
  · rename_i b r
    split at h
    · injection h with h
      unfold Mg at h
      split at h
      · injection h with h1 h2; subst h1; rw [List.length_take]; omega
      · split at h
        · injection h with h1 h2; cases h2
        · injection h with h1 h2; subst h1; rw [List.length_take]; omega
    · split at h
      · unfold aK at h
        split at h
        · injection h with h; injection h with h1 h2; cases h2
        · split at h
          · split at h
            · injection h with h; injection h with h1 h2; cases h2
            · injection h with h; injection h with h1 h2; subst h1; rw [List.length_take]; omega
          · injection h with h; injection h with h1 h2; cases h2
      · injection h with h
        unfold Oa at h
        split at h
        · rename_i s hs
          injection h with h1 h2; subst h1
          have hq : G5 s (b :: r) = true := by simpa using List.find?_some hs
          exact Zt hq
        · injection h with h1 h2; cases h2
def Eo (a e : Nat) : List AV := [Dy a, Dy e]
theorem a33 : Fv Tryz.prog 33 = some true := by kernel_rfl
theorem s33 : Fj Tryz.prog 33 = some 2 := by kernel_rfl
theorem Jt (S : St) : Hr Tryz.prog S 33 = some (.ptr S.next 0, S.newBox (Eo 0 0)) := rfl
theorem Rw {S : St} {id : Nat} {cs ys : List AV} (h : S.mem.get id = some (.box cs)) (hl : cs.length = 2) (hy : ys.length = 2) : Du Tryz.prog S 33 (.ptr id 0) (.agg ys) = some (S.put id ys) := by
  have h2 : (AV.agg ys).noTup = true := rfl
  simp [Du, h, s33, h2, AV.cells, hl, hy, St.put, List.drop_eq_nil_of_le]
theorem Jm (S : St) (id : Nat) (cs : List AV) (hl : cs.length = 2) : Dw Tryz.prog (S.put id cs) 33 (.ptr id 0) = some (.agg cs) := by
  have e : cs.take 2 = cs := List.take_of_length_le (by omega)
  simp [Dw, D6, E9, a33, s33, hl, e]
theorem b33_0 : Gk Tryz.prog 33 [] = some (.agg (Eo 0 0)) := rfl
theorem Xw (a e : Int) : Gk Tryz.prog 33 [(0, .v (.int .i64 a)), (1, .v (.int .i64 e))] = some (.agg [.v (.int .i64 a), .v (.int .i64 e)]) := rfl
theorem Tv (a b : AV) : Gz Tryz.prog 31 a b = false := by
  have h : Tryz.prog.underlying 31 = some (.int .i64) := rfl
  unfold Gz; rw [h]
theorem e63 : Gu Tryz.prog 63 = some (none, 68) := by kernel_rfl
theorem u63 : Tryz.prog.underlying 63 = some (.slice 68) := by kernel_rfl
theorem i68 : (Tryz.prog.info? 68).map (fun i => (i.zero, i.size, i.bytes)) = some (some (.agg #[.int .i64 0, .int .i64 0, .string ⟨#[]⟩, .int .u64 0]), 4, 40) := by kernel_rfl
theorem z68 : Jy Tryz.prog 68 = some (Fm Dx) := by kernel_rfl
theorem row63 (t : Tk) : D3 Tryz.prog 63 1 [(0, Fm t)] = some (.sl 1 0 4 [Fm t]) := by
  have h1 : (Fm t).noTup = true := rfl
  have h2 : (Fm t).cells.length = 4 := rfl
  simp [D3, e63, s68, z68, h1, h2]
theorem app63 (S : St) (a b : AV) : G6 E1 S 63 63 a b = Fp Tryz.prog S 63 63 a b := rfl
/-- The row so far. -/
def V1 (lo : Nat) (S : St) (a : AV) (es : List AV) : Prop := (a = .nils ∧ es = []) ∨ ∃ tok, 2 ≤ tok ∧ lo ≤ tok ∧ tok < S.next ∧ a = .sl tok 0 4 es ∧ S.mem.get tok = some (.tip (es.length * 4))
theorem V1.keep {lo : Nat} {S S' : St} {a : AV} {es : List AV} (h : V1 lo S a es) (k : Fg S S') : V1 lo S' a es := by
  rcases h with h | ⟨tok, h1, h2, h3, h4, h5⟩
  · exact .inl h
  · exact .inr ⟨tok, h1, h2, Nat.lt_of_lt_of_le h3 k.1, h4, by rw [k.2 tok h3]; exact h5⟩
/-- One more: what stood under other names stands. -/
theorem Z1 {lo : Nat} {S : St} {a : AV} {es : List AV} (h : V1 lo S a es) (hn : 2 ≤ S.next) (hlo : lo ≤ S.next) (t : Tk) (hl : es.length ≤ 100000) :
    ∃ S', Fp Tryz.prog S 63 63 a (.sl 1 0 4 [Fm t]) = some (.sl S.next 0 4 (es ++ [Fm t]), S') ∧ V1 lo S' (.sl S.next 0 4 (es ++ [Fm t])) (es ++ [Fm t]) ∧ S.next ≤ S'.next ∧ ∀ id cs, id < S.next → S.mem.get id = some (.box cs) ∨ id < lo → S'.mem.get id = S.mem.get id := by
  obtain ⟨i, hi, hz0, hz1, hz2⟩ := Gg i68
  rcases h with ⟨rfl, rfl⟩ | ⟨tok, h1, h2, h3, rfl, h5⟩
  · refine ⟨S.grown 1 4, ?_, .inr ⟨S.next, hn, hlo, Nat.lt_succ_self _, rfl, ?_⟩, Nat.le_succ _, fun id cs hid _ => ?_⟩
    · simp [Fp, e63, hi, hz0, hz1, hz2, Kh, u63, Value.cells]
    · show (S.mem.set S.next _).get S.next = _
      rw [T.get_set, if_pos rfl]; rfl
    · show (S.mem.set S.next _).get id = _
      rw [T.get_set, if_neg (by omega)]
  · obtain ⟨k, rfl⟩ : ∃ k, tok = k + 2 := ⟨tok - 2, by omega⟩
    have hb1 : (es.length + 1) * 40 ≤ 140737488355328 := by omega
    have hb2 : es.length + 1 ≤ 9223372036854775807 := by omega
    refine ⟨S.grown (k + 2) ((es ++ [Fm t]).length * 4), ?_, .inr ⟨S.next, hn, hlo, Nat.lt_succ_self _, rfl, ?_⟩, Nat.le_succ _, fun id cs hid hor => ?_⟩
    · simp [Fp, e63, hi, hz0, hz1, hz2, Kh, u63, Value.cells, Lj, h5, hb1, hb2]
    · show ((S.mem.set (k + 2) none).set S.next _).get S.next = _
      rw [T.get_set, if_pos rfl]
    · show ((S.mem.set (k + 2) none).set S.next _).get id = _
      rw [T.get_set, if_neg (by omega), T.get_set, if_neg (fun e => by
        subst e
        rcases hor with h | h
        · rw [h5] at h; cases h
        · omega)]
noncomputable def Ny : Code := match Tryz.f25.body with
  | some (.seq _ (.seq _ (.seq _ (.seq (.seq _ (.block _ (.loop c))) _)))) => c
  | _ => .skip
theorem mR {S : St} {id : Nat} {cs : List AV} (h : S.mem.get id = some (.box cs)) (hl : cs.length = 2) : Dw Tryz.prog S 33 (.ptr id 0) = some (.agg cs) := by
  have e : cs.take 2 = cs := List.take_of_length_le (by omega)
  simp [Dw, D6, h, a33, s33, hl, e]
theorem Qz {S : St} {id : Nat} {t : Tk} (h : S.mem.get id = some (.box (Dz t))) : Dw Tryz.prog S 68 (.ptr id 0) = some (Fm t) := by
  simp [Dw, D6, h, a68, s68, Dz, Fm]
theorem fa68 (id : Nat) : Dt Tryz.prog 68 (.ptr id 0) 2 = some (.ptr id 2) := by kernel_rfl
theorem Yt {S : St} {id : Nat} {t : Tk} (h : S.mem.get id = some (.box (Dz t))) : Dw Tryz.prog S 9 (.ptr id 2) = some (D5 t.text) := by
  simp [Dw, D6, h, a9, Dz]
def oX (l : List UInt8) (S0 : St) (acc : List Tk) (out : (Nat × Nat) ⊕ List Tk) (r : O) : Prop := match out with
  | .inl x => ∃ t' S', r = .out .ret ⟨t', []⟩ S' ∧ t'.get 2 = some .nils ∧ t'.get 3 = some (.ptr S0.next 0) ∧ S'.mem.get S0.next = some (.box (Eo x.1 x.2)) ∧ Fg S0 S'
  | .inr ts => ∃ t' S' a' acc', r = .out (.exit 0) ⟨t', []⟩ S' ∧ t'.get 0 = some (D5 l) ∧ t'.get 3 = some (.ptr S0.next 0) ∧ t'.get 4 = some a' ∧ V1 (S0.next + 1) S' a' (acc'.map Fm) ∧ acc' ++ [⟨5, l.length, [], 0⟩] = acc ++ ts ∧ acc'.length ≤ l.length ∧ S'.mem.get S0.next = some (.box (Eo 0 0)) ∧ Fg S0 S' ∧ S0.next < S'.next ∧ 2 ≤ S'.next
set_option maxHeartbeats 16000000 in
theorem bQ (l : List UInt8) (hl : l.length ≤ 4000) (S0 : St) : ∀ (n i : Nat) (t : T AV) (S : St) (a : AV) (acc : List Tk) (out : (Nat × Nat) ⊕ List Tk), O3 l n i = some out → i ≤ l.length → n + acc.length ≤ l.length + 1 → t.get 0 = some (D5 l) → t.get 3 = some (.ptr S0.next 0) → t.get 4 = some a → t.get 5 = some (Dy i) →
    V1 (S0.next + 1) S a (acc.map Fm) → S.mem.get S0.next = some (.box (Eo 0 0)) → Fg S0 S → S0.next < S.next → 2 ≤ S.next → WX E1 47 (.loop Ny) ⟨t, []⟩ S (oX l S0 acc out)
  | 0, i, t, S, a, acc, out, ho, hi, hn, h0, h3, h4, h5, hr, hb, hk, hlt, h2 => by cases ho
  | n + 1, i, t, S, a, acc, out, ho, hi, hn, h0, h3, h4, h5, hr, hb, hk, hlt, h2 => by
    refine Fc (Es ?_)
    obtain ⟨fn1, hf1⟩ := fnOk66
    obtain ⟨fn2, hf2⟩ := nD
    unfold O3 at ho
    by_cases hil : i < l.length
    · rw [if_pos hil] at ho
      have hltI : ((i : Int) < (l.length : Int)) := by omega
      cases hq : Jk (l.drop i) i with
      | none => rw [hq] at ho; cases ho
      | some p =>
        obtain ⟨tk, e⟩ := p
        rw [hq] at ho
        simp only at ho
        simp only [D5,Dy] at h0 h5 ⊢
        simp only [A3,A6,Bb,Bc,Cr,Bn,B4,C9,Cu,B5,Cs,Ct,Da,Bu,Be,Bo,Bp,A2,A9,Ba,A5,Dc,B6,Bm,Bh,A8,A4,Bi,Bg,Bf,Bq,Br,B9,Ca,Bv,C0,Cz,C1,A0,A1,C2,Dd,ofOpt,ofOptS,Bw,Dh,Di,Cj,Cl,Bk,Bl,C4,Bj,Df,A7,Bd,Cm,Cn,Co,Cp,Cq,B3,B1,Nat.reduceLT,Nat.reduceAdd,Nat.reduceEqDiff,Aa,Ab,reduceIte,Ac,Ad,Ae,Af,Ag,Ah,Ai,Aj,Ak,Al,Am,Ao,Ap,Aq,Ar,Au,Av,Aw,Option.toList,Ay,Az,Ny,Tryz.f25,h0,h3,h4,h5,Qy,hltI,hf1]
        refine WC.mono (next_w l (by omega) i hil S (tk, e) hq) ?_
        rintro _ ⟨S2, rfl, k2⟩
        have kS : Fg S0 S2 := hk.trans k2
        have hb2 : S2.mem.get S0.next = some (.box (Eo 0 0)) := by rw [k2.2 _ hlt]; exact hb
        have hlt2 : S0.next < S2.next := Nat.lt_of_lt_of_le hlt k2.1
        have hr2 := hr.keep k2
        have q1 : Du Tryz.prog (S2.newBox (Dz Dx)) 68 (.ptr S2.next 0) (Fm tk) = some ((S2.newBox (Dz Dx)).put S2.next (Dz tk)) := Kg S2 (Dz Dx) (Dz tk) rfl rfl
        have kN : Fg S2 ((S2.newBox (Dz Dx)).put S2.next (Dz tk)) := E5 (Eb S2 _) (Nat.le_refl _) _
        generalize hS3 : (S2.newBox (Dz Dx)).put S2.next (Dz tk) = S3 at q1 kN
        have hn3 : S3.next = S2.next + 1 := by rw [← hS3]; rfl
        have hg3 : S3.mem.get S2.next = some (.box (Dz tk)) := by rw [← hS3]; exact E9 _ _ _
        have hb3 : S3.mem.get S0.next = some (.box (Eo 0 0)) := by rw [kN.2 _ hlt2]; exact hb2
        have hr3 := hr2.keep kN
        by_cases he : e = 0
        · subst he
          rw [if_pos rfl] at ho
          obtain ⟨S4, hap, hr4, hle4, hk4⟩ := Z1 hr3 (by omega) (by omega) tk (by simp; omega)
          have hb4 : S4.mem.get S0.next = some (.box (Eo 0 0)) := by rw [hk4 S0.next (Eo 0 0) (by omega) (.inl hb3)]; exact hb3
          have hg4 : S4.mem.get S2.next = some (.box (Dz tk)) := by rw [hk4 S2.next (Dz tk) (by omega) (.inl hg3)]; exact hg3
          have kS4 : Fg S0 S4 := ⟨by have := kS.1; omega, fun id hid => by rw [hk4 id [] (by have := kS.1; omega) (.inr (by omega)), kN.2 id (by have := kS.1; omega)]; exact kS.2 id hid⟩
          have hnl := Qu hq
          rw [List.length_drop] at hnl
          have hw := Hv (i := i) (j := tk.text.length) (by omega)
          have ld1 := Qz hg3
          have z0 : (((0 : Nat) : Int) != 0) = false := rfl
          have ld2 := Yt hg4
          have hrow := row63 tk
          unfold D5 at ld2
          simp only [A3,A6,Bb,Bc,Cr,Bn,B4,C9,Cu,B5,Cs,Ct,Da,Bu,Be,Bo,Bp,A2,A9,Ba,A5,Dc,B6,Bm,Bh,A8,A4,Bi,Bg,Bf,Bq,Br,B9,Ca,Bv,C0,Cz,C1,A0,A1,C2,Dd,ofOpt,ofOptS,Bw,Dh,Di,Cj,Cl,Bk,Bl,C4,Bj,Df,A7,Bd,Cm,Cn,Co,Cp,Cq,B3,B1,Nat.reduceLT,Nat.reduceAdd,Nat.reduceEqDiff,Aa,Ab,reduceIte,Ac,Ad,Ae,Af,Ag,Ah,Ai,Aj,Ak,Al,Am,Ao,Ap,Aq,Ar,Au,Av,Aw,Option.toList,Ay,Az,Ny,Tryz.f25,Cb,Dp,q1,Tv,Dy,bne_self_eq_false,app63,z0,ld1,ld2,hap,hrow,fa68,hw,Qy,h0,h4,h5,hf2]
          refine WC.mono (lA l (by omega) (l.length + 1) (i + tk.text.length) (by omega) (by omega) S4) ?_
          rintro _ rfl
          simp only [A3,A6,Bb,Bc,Cr,Bn,B4,C9,Cu,B5,Cs,Ct,Da,Bu,Be,Bo,Bp,A2,A9,Ba,A5,Dc,B6,Bm,Bh,A8,A4,Bi,Bg,Bf,Bq,Br,B9,Ca,Bv,C0,Cz,C1,A0,A1,C2,Dd,ofOpt,ofOptS,Bw,Dh,Di,Cj,Cl,Bk,Bl,C4,Bj,Df,A7,Bd,Cm,Cn,Co,Cp,Cq,B3,B1,Nat.reduceLT,Nat.reduceAdd,Nat.reduceEqDiff,Aa,Ab,reduceIte,Ac,Ad,Ae,Af,Ag,Ah,Ai,Aj,Ak,Al,Am,Ao,Ap,Aq,Ar,Au,Av,Aw,Option.toList,Ay,Az,Ny,Tryz.f25]
          have hsk := Jh (l.length + 1) (l.drop (i + tk.text.length))
          rw [List.length_drop] at hsk
          cases hrest : O3 l n (i + tk.text.length + Je (l.length + 1) (l.drop (i + tk.text.length))) with
          | none => rw [hrest] at ho; cases ho
          | some out2 =>
            rw [hrest] at ho
            refine WX.mono (bQ l hl S0 n _ _ S4 _ (acc ++ [tk]) out2 hrest (by omega) (by simp; omega) ?_ ?_ ?_ ?_ (by rw [List.map_append]; exact hr4) hb4 kS4 (by omega) (by omega)) ?_
            · simp only [A0,Nat.reduceEqDiff,Ab,h0]; rfl
            · simp only [A0,Nat.reduceEqDiff,Ab,h3]
            · simp only [A0,Nat.reduceEqDiff,Aa,Ab]
            · simp only [A0,Nat.reduceEqDiff,Aa]
            · intro r hp
              cases out2 with
              | inl x => injection ho with ho; subst ho; exact hp
              | inr ts =>
                injection ho with ho; subst ho
                obtain ⟨t', S', a', acc', g1, g2, g3, g4, g5, g6, g7⟩ := hp
                exact ⟨t', S', a', acc', g1, g2, g3, g4, g5, by rw [g6]; simp, g7⟩
        · rw [if_neg he] at ho
          injection ho with ho; subst ho
          have hne : (((e : Nat) : Int) != 0) = true := by rw [bne_iff_ne]; omega
          have st := Rw hb3 rfl (show ([.v (.int .i64 i), .v (.int .i64 e)] : List AV).length = 2 from rfl)
          simp only [A3,A6,Bb,Bc,Cr,Bn,B4,C9,Cu,B5,Cs,Ct,Da,Bu,Be,Bo,Bp,A2,A9,Ba,A5,Dc,B6,Bm,Bh,A8,A4,Bi,Bg,Bf,Bq,Br,B9,Ca,Bv,C0,Cz,C1,A0,A1,C2,Dd,ofOpt,ofOptS,Bw,Dh,Di,Cj,Cl,Bk,Bl,C4,Bj,Df,A7,Bd,Cm,Cn,Co,Cp,Cq,B3,B1,Nat.reduceLT,Nat.reduceAdd,Nat.reduceEqDiff,Aa,Ab,reduceIte,Ac,Ad,Ae,Af,Ag,Ah,Ai,Aj,Ak,Al,Am,Ao,Ap,Aq,Ar,Au,Av,Aw,Option.toList,Ay,Az,Ny,Tryz.f25,Cb,Dp,q1,Tv,Dy,hne,Xw,h3,h5,st]
          refine ⟨_, _, rfl, ?_, ?_, E9 _ _ _, ?_⟩
          · simp only [A0,Nat.reduceEqDiff,Aa]
          · simp only [A0,Nat.reduceEqDiff,Ab,h3]
          · exact E5 (kS.trans kN) (Nat.le_refl _) _
    · rw [if_neg hil] at ho
      injection ho with ho; subst ho
      have hltI : ¬ ((i : Int) < (l.length : Int)) := by omega
      simp only [D5,Dy] at h0 h5 ⊢
      simp only [A3,A6,Bb,Bc,Cr,Bn,B4,C9,Cu,B5,Cs,Ct,Da,Bu,Be,Bo,Bp,A2,A9,Ba,A5,Dc,B6,Bm,Bh,A8,A4,Bi,Bg,Bf,Bq,Br,B9,Ca,Bv,C0,Cz,C1,A0,A1,C2,Dd,ofOpt,ofOptS,Bw,Dh,Di,Cj,Cl,Bk,Bl,C4,Bj,Df,A7,Bd,Cm,Cn,Co,Cp,Cq,B3,B1,Nat.reduceLT,Nat.reduceAdd,Nat.reduceEqDiff,Aa,Ab,reduceIte,Ac,Ad,Ae,Af,Ag,Ah,Ai,Aj,Ak,Al,Am,Ao,Ap,Aq,Ar,Au,Av,Aw,Option.toList,Ay,Az,Ny,Tryz.f25,h0,h3,h4,h5,Qy,hltI]
      refine ⟨_, S, a, acc, rfl, ?_, ?_, ?_, hr, rfl, by omega, hb, hk, hlt, h2⟩
      · simp only [A0,Nat.reduceEqDiff,Ab,h0]; rfl
      · simp only [A0,Nat.reduceEqDiff,Ab,h3]
      · simp only [A0,Nat.reduceEqDiff,Ab,h4]
/-- What All answers. -/
def LexPost (S : St) (out : (Nat × Nat) ⊕ List Tk) (r : R) : Prop := match out with
  | .inl x => ∃ S', r = .ret (.tup [.nils, .agg (Eo x.1 x.2)]) S' ∧ Fg S S'
  | .inr ts => ∃ S' tok, r = .ret (.tup [.sl tok 0 4 (ts.map Fm), .agg (Eo 0 0)]) S' ∧ Fg S S'
set_option maxHeartbeats 16000000 in
theorem all_w (l : List UInt8) (S : St) (hS : 2 ≤ S.next) (hsz : l.length ≤ 1000000) (out : (Nat × Nat) ⊕ List Tk) (ho : Me l = some out) : WC E1 25 [D5 l] S (LexPost S out) := by
  refine Ek Tryz.f25 (by kernel_rfl) (by kernel_rfl) (by kernel_rfl) (show (_ : Nat) ≤ _ from by show (_ : Nat) ≤ _; simp [Tryz.f25]) ?_
  obtain ⟨fn2, hf2⟩ := nD
  have hn := Ea S (Eo 0 0)
  have kn := Eb S (Eo 0 0)
  unfold Me at ho
  simp only [D5]
  by_cases h4 : 4000 < l.length
  · rw [if_pos h4] at ho
    injection ho with ho; subst ho
    have hg : ((l.length : Nat) : Int) > 4000 := by omega
    have q1 := Rw hn rfl (show ([.v (.int .i64 4000), .v (.int .i64 3)] : List AV).length = 2 from rfl)
    have q2 := Jm (S.newBox (Eo 0 0)) S.next [.v (.int .i64 4000), .v (.int .i64 3)] rfl
    simp only [A3,A6,Bb,Bc,Cr,Bn,B4,C9,Cu,B5,Cs,Ct,Da,Bu,Be,Bo,Bp,A2,A9,Ba,A5,Dc,B6,Bm,Bh,A8,A4,Bi,Bg,Bf,Bq,Br,B9,Ca,Bv,C0,Cz,C1,A0,A1,C2,Dd,ofOpt,ofOptS,Bw,Dh,Di,Cj,Cl,Bk,Bl,C4,Bj,Df,A7,Bd,Cm,Cn,Co,Cp,Cq,B3,B1,Nat.reduceLT,Nat.reduceAdd,Nat.reduceEqDiff,Aa,Ab,reduceIte,Ac,Ad,Ae,Af,Ag,Ah,Ai,Aj,Ak,Al,Am,Ao,Ap,Aq,Ar,Au,Av,Aw,Option.toList,Ay,Az,Tryz.f25,Jt,Qy,hg,Xw,q1,q2]
    exact ⟨_, rfl, E5 kn (Nat.le_refl _) _⟩
  · rw [if_neg h4] at ho
    have hg : ¬ ((l.length : Nat) : Int) > 4000 := by omega
    have hsk := Jh (l.length + 1) l
    have key := fun t h0 h3 h4' h5 => bQ l (by omega) S (l.length + 1) (Je (l.length + 1) l) t (S.newBox (Eo 0 0)) .nils [] out ho hsk (by simp) h0 h3 h4' h5 (.inl ⟨rfl, rfl⟩) hn kn (Nat.lt_succ_self _) (Nat.le_succ_of_le hS)
    unfold Ny at key
    simp only [Tryz.f25] at key
    simp only [A3,A6,Bb,Bc,Cr,Bn,B4,C9,Cu,B5,Cs,Ct,Da,Bu,Be,Bo,Bp,A2,A9,Ba,A5,Dc,B6,Bm,Bh,A8,A4,Bi,Bg,Bf,Bq,Br,B9,Ca,Bv,C0,Cz,C1,A0,A1,C2,Dd,ofOpt,ofOptS,Bw,Dh,Di,Cj,Cl,Bk,Bl,C4,Bj,Df,A7,Bd,Cm,Cn,Co,Cp,Cq,B3,B1,Nat.reduceLT,Nat.reduceAdd,Nat.reduceEqDiff,Aa,Ab,reduceIte,Ac,Ad,Ae,Af,Ag,Ah,Ai,Aj,Ak,Al,Am,Ao,Ap,Aq,Ar,Au,Av,Aw,Option.toList,Ay,Az,Tryz.f25,Jt,Qy,hg,hf2]
    refine WC.mono (lA l (by omega) (l.length + 1) 0 (by omega) (by omega) _) ?_
    rintro _ rfl
    simp only [List.drop_zero,Nat.zero_add]
    simp only [A3,A6,Bb,Bc,Cr,Bn,B4,C9,Cu,B5,Cs,Ct,Da,Bu,Be,Bo,Bp,A2,A9,Ba,A5,Dc,B6,Bm,Bh,A8,A4,Bi,Bg,Bf,Bq,Br,B9,Ca,Bv,C0,Cz,C1,A0,A1,C2,Dd,ofOpt,ofOptS,Bw,Dh,Di,Cj,Cl,Bk,Bl,C4,Bj,Df,A7,Bd,Cm,Cn,Co,Cp,Cq,B3,B1,Nat.reduceLT,Nat.reduceAdd,Nat.reduceEqDiff,Aa,Ab,reduceIte,Ac,Ad,Ae,Af,Ag,Ah,Ai,Aj,Ak,Al,Am,Ao,Ap,Aq,Ar,Au,Av,Aw,Option.toList,Ay,Az,Tryz.f25]
    refine WX.mono (key _ ?_ ?_ ?_ ?_) ?_
    · simp only [A0,A1,Nat.reduceEqDiff,Aa,Ab]; rfl
    · simp only [A0,A1,Nat.reduceEqDiff,Aa,Ab]
    · simp only [A0,A1,Nat.reduceEqDiff,Aa,Ab]
    · simp only [A0,A1,Nat.reduceEqDiff,Aa,Ab]
    · intro r hp
      cases out with
      | inl x =>
        obtain ⟨t', S', rfl, g2, g3, g4, g5⟩ := hp
        have q2 := mR g4 rfl
        simp only [A3,A6,Bb,Bc,Cr,Bn,B4,C9,Cu,B5,Cs,Ct,Da,Bu,Be,Bo,Bp,A2,A9,Ba,A5,Dc,B6,Bm,Bh,A8,A4,Bi,Bg,Bf,Bq,Br,B9,Ca,Bv,C0,Cz,C1,A0,A1,C2,Dd,ofOpt,ofOptS,Bw,Dh,Di,Cj,Cl,Bk,Bl,C4,Bj,Df,A7,Bd,Cm,Cn,Co,Cp,Cq,B3,B1,Nat.reduceLT,Nat.reduceAdd,Nat.reduceEqDiff,Aa,Ab,reduceIte,Ac,Ad,Ae,Af,Ag,Ah,Ai,Aj,Ak,Al,Am,Ao,Ap,Aq,Ar,Au,Av,Aw,Option.toList,Ay,Az,Tryz.f25,g2,g3,q2]
        exact ⟨_, rfl, g5⟩
      | inr ts =>
        obtain ⟨t', S', a', acc', rfl, g0, g3, g4, g5, g6, g7, g8, g9, g10, g11⟩ := hp
        unfold D5 at g0
        obtain ⟨S4, hap, hr4, hle4, hk4⟩ := Z1 g5 (by omega) (by omega) ⟨5, l.length, [], 0⟩ (by simp; omega)
        have hb4 : S4.mem.get S.next = some (.box (Eo 0 0)) := by rw [hk4 S.next (Eo 0 0) g10 (.inl g8)]; exact g8
        have k4 : Fg S S4 := ⟨by have := g9.1; omega, fun id hid => by rw [hk4 id [] (by have := g9.1; omega) (.inr (by omega))]; exact g9.2 id hid⟩
        have hb : Gk Tryz.prog 68 [(0, .v (.int .i64 5)), (1, .v (.int .i64 (l.length : Int)))] = some (Fm ⟨5, l.length, [], 0⟩) := rfl
        have hrow := row63 ⟨5, l.length, [], 0⟩
        have q1 := Rw hb4 rfl (show (Eo 0 0).length = 2 from rfl)
        have q2 := Jm S4 S.next (Eo 0 0) rfl
        simp only [A3,A6,Bb,Bc,Cr,Bn,B4,C9,Cu,B5,Cs,Ct,Da,Bu,Be,Bo,Bp,A2,A9,Ba,A5,Dc,B6,Bm,Bh,A8,A4,Bi,Bg,Bf,Bq,Br,B9,Ca,Bv,C0,Cz,C1,A0,A1,C2,Dd,ofOpt,ofOptS,Bw,Dh,Di,Cj,Cl,Bk,Bl,C4,Bj,Df,A7,Bd,Cm,Cn,Co,Cp,Cq,B3,B1,Nat.reduceLT,Nat.reduceAdd,Nat.reduceEqDiff,Aa,Ab,reduceIte,Ac,Ad,Ae,Af,Ag,Ah,Ai,Aj,Ak,Al,Am,Ao,Ap,Aq,Ar,Au,Av,Aw,Option.toList,Ay,Az,Tryz.f25,g0,g3,g4,Qy,app63,hb,hrow,hap,b33_0,q1,q2]
        refine ⟨S4.put S.next (Eo 0 0), S'.next, ?_, E5 k4 (Nat.le_refl _) _⟩
        have e : acc'.map Fm ++ [Fm ⟨5, l.length, [], 0⟩] = ts.map Fm := by
          have := congrArg (List.map Fm) g6
          simpa using this
        rw [e]
end Go.Ax
