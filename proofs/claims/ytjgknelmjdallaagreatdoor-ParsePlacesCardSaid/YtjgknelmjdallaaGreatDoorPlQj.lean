/-
  ParsePlaces' loops: names, declarations, equations, nodes.
-/
import Derived.Test.YtjgknelmjdallaaGreatDoorPlQi
import Derived.Test.YtjgknelmjdallaaGreatDoorPlQb
noncomputable section
namespace Go.Ax
open Go.RowKit Go.Proofs
set_option linter.unusedVariables false
set_option linter.unusedSimpArgs false
set_option maxRecDepth 100000

def Et (id : Nat) : Code → Option Code
  | .block i c => if i = id then some c else Et id c
  | .seq a b => match Et id a with
    | some x => some x
    | none => Et id b
  | .loop c => Et id c
  | .cond _ a b => match Et id a with
    | some x => some x
    | none => Et id b
  | _ => none
noncomputable def Gj (id : Nat) : Code := match Tryz.f5.body with
  | some b => (match Et id b with
    | some (.loop c) => c
    | _ => .skip)
  | none => .skip
theorem idxT {t e n : Nat} (he : Gu Tryz.prog t = some (none, e)) (hs : Fj Tryz.prog e = some n) (tok off : Nat) (es : List AV) (j : Nat) (h : j < es.length) : Ff Tryz.prog t (.sl tok off n es) (.v (.int .i64 (j : Int))) = some (.ep es[j].cells) := by
  have h0 : (0 : Int) ≤ (j : Int) := by omega
  simp [Ff, h0, he, hs, h]
theorem lepT {e n : Nat} (ha : Fv Tryz.prog e = some true) (hs : Fj Tryz.prog e = some n) (S : St) (ys : List AV) (h : ys.length = n) : Dw Tryz.prog S e (.ep ys) = some (.agg ys) := by
  have e2 : ys.take n = ys := List.take_of_length_le (by omega)
  simp [Dw, D6, ha, hs, h, e2]
theorem stT {e n : Nat} (hs : Fj Tryz.prog e = some n) {S : St} {id : Nat} {cs ys : List AV} (h : S.mem.get id = some (.box cs)) (hl : cs.length = n) (hy : ys.length = n) : Du Tryz.prog S e (.ptr id 0) (.agg ys) = some (S.put id ys) := by
  have h2 : (AV.agg ys).noTup = true := rfl
  simp [Du, h, hs, h2, AV.cells, hl, hy, St.put, List.drop_eq_nil_of_le]
theorem ldT {e n : Nat} (ha : Fv Tryz.prog e = some true) (hs : Fj Tryz.prog e = some n) {S : St} {id : Nat} {cs : List AV} (h : S.mem.get id = some (.box cs)) (hl : cs.length = n) : Dw Tryz.prog S e (.ptr id 0) = some (.agg cs) := by
  have e2 : cs.take n = cs := List.take_of_length_le (by omega)
  simp [Dw, D6, h, ha, hs, hl, e2]
theorem e55 : Gu Tryz.prog 55 = some (none, 59) := by kernel_rfl
theorem e46' : Gu Tryz.prog 46 = some (none, 54) := by kernel_rfl
theorem e47' : Gu Tryz.prog 47 = some (none, 57) := by kernel_rfl
theorem e40 : Gu Tryz.prog 40 = some (none, 49) := by kernel_rfl
theorem Ia (b : Nat) : Dt Tryz.prog 59 (.ptr b 0) 0 = some (.ptr b 0) := by kernel_rfl
theorem H9 (b : Nat) : Dt Tryz.prog 59 (.ptr b 0) 1 = some (.ptr b 1) := by kernel_rfl
theorem Ig (b : Nat) : Dt Tryz.prog 54 (.ptr b 0) 0 = some (.ptr b 0) := by kernel_rfl
theorem Ie (b : Nat) : Dt Tryz.prog 54 (.ptr b 0) 1 = some (.ptr b 1) := by kernel_rfl
theorem Ic (b : Nat) : Dt Tryz.prog 57 (.ptr b 0) 0 = some (.ptr b 0) := by kernel_rfl
theorem Ib (b : Nat) : Dt Tryz.prog 57 (.ptr b 0) 2 = some (.ptr b 2) := by kernel_rfl
theorem Ij (b : Nat) : Dt Tryz.prog 49 (.ptr b 0) 0 = some (.ptr b 0) := by kernel_rfl
theorem Ii (b : Nat) : Dt Tryz.prog 49 (.ptr b 0) 1 = some (.ptr b 1) := by kernel_rfl
theorem Ih (b : Nat) : Dt Tryz.prog 49 (.ptr b 0) 5 = some (.ptr b 5) := by kernel_rfl
theorem ldNm {S : St} {id : Nat} {nm : List UInt8} {p : Nat} {r : List AV} (h : S.mem.get id = some (.box (D5 nm :: Dy p :: r))) : Dw Tryz.prog S 9 (.ptr id 0) = some (.v (.string ⟨⟨nm⟩⟩)) ∧ Dw Tryz.prog S 3 (.ptr id 1) = some (.v (.int .i64 (p : Int))) := by
  simp [Dw, D6, h, a9, a3, D5, Dy]
theorem kP {s w : List UInt8} {a : Nat} (h : stB s w a = true) : a + w.length ≤ s.length := by
  unfold stB at h
  rw [Bool.and_eq_true] at h
  simpa using h.1
/-- A new box, with what is loaded. -/
theorem Yp (S : St) (z ys : List AV) : Fg S ((S.newBox z).put S.next ys) ∧ ((S.newBox z).put S.next ys).mem.get S.next = some (.box ys) ∧ S.next < ((S.newBox z).put S.next ys).next :=
  ⟨E5 (Eb S _) (Nat.le_refl _) _, E9 _ _ _, Nat.lt_succ_self _⟩
section
variable {q tx st : Nat} {s : List UInt8} (hs : s.length ≤ 100000)
include hs
/-- The closure is asked, of a word that stands. -/
theorem ask (S : St) (w : List UInt8) (a : Nat) (hg : stB s w a = true) (hS : Mw q [(tx, [D5 s]), (st, [Hz q tx])] S) (hf : Iz q true S) : WC E1 21 [.v (.string ⟨⟨w⟩⟩), .v (.int .i64 (a : Int)), .ptr q 0, .ptr tx 0] S (fun r => ∃ S', r = .ret (.tup []) S' ∧ Iz q true S' ∧ Gr q S S') := by
  have hle := kP hg
  have h := Ub q tx s w a true hs (by omega) (by omega) S hf hS.2.1 (hS.2.2 (tx, [D5 s]) (by simp)).2.2
  rw [hg] at h
  exact h
omit hs in
set_option maxHeartbeats 4000000 in
theorem dB (t : T AV) (S : St) (h66 : t.get 66 = some (.v (.int .i64 ((([] : List (List UInt8 × Nat)).length : Nat) : Int)))) (h67 : t.get 67 = some (.v (.int .i64 0))) : WX E1 85 (.loop (Gj 6)) ⟨t, []⟩ S (fun r => ∃ t', r = .out (.exit 6) ⟨t', []⟩ S ∧ (∀ k, k < 67 → k ≠ 14 → t'.get k = t.get k)) := by
  refine Fc (Es ?_)
  have hlt : ¬ ((0 : Int) < (0 : Int)) := by omega
  have h66' : t.get 66 = some (.v (.int .i64 0)) := h66
  simp only [↓D1,E7,E6,A3,A6,Bb,Bc,Cr,Bn,B4,C9,Cu,B5,Cs,Ct,Da,Ci,Ee,Ey,Ez,Dv,D8,D9,D2,De,B6,Bm,Ei,D7,D0,Ej,Eg,Ef,E3,E4,Fd,Fe,Bv,C0,Cz,C1,A0,A1,C2,Dd,ofOpt,ofOptS,Bw,Dh,Di,Cj,Cl,Bk,Bl,C4,Bj,Df,A7,Bd,Cm,Cn,Co,Cp,Cq,B3,B1,Nat.reduceLT,Nat.reduceAdd,Nat.reduceEqDiff,Aa,Ab,reduceIte,Ac,Ad,Ae,Af,Ag,Ah,Ai,Aj,Ak,Al,Am,Ao,Ap,Aq,Ar,Au,Av,Aw,Option.toList,Ay,Az,Tryz.f5,Et,Gj,B7,B8,Cb,Ia,H9,Ig,Ie,Ic,Ib,Ij,Ii,Ih,h66',h67,hlt]
  refine ⟨_, rfl, fun k h1 h2 => ?_⟩
  rw [T.get_set, if_neg (by omega)]
set_option maxHeartbeats 16000000 in
theorem U8 (S0 : St) (tok off : Nat) (l : List (List UInt8 × Nat)) (hl : l.length ≤ 1000000) (hgood : ∀ x ∈ l, bV s x) (t0 : T AV) : ∀ (m j : Nat) (t : T AV) (S : St), j + m = l.length → (∀ k, k < 67 → k ≠ 14 → t.get k = t0.get k) →
    t0.get 6 = some (.ptr st 0) → t0.get 65 = some (.sl tok off 2 (l.map Gc)) → t0.get 66 = some (.v (.int .i64 (l.length : Int))) → t.get 67 = some (.v (.int .i64 (j : Int))) → Mw q [(tx, [D5 s]), (st, [Hz q tx])] S → Iz q true S → Gr q S0 S →
    WX E1 85 (.loop (Gj 6)) ⟨t, []⟩ S (fun r => ∃ t' S', r = .out (.exit 6) ⟨t', []⟩ S' ∧ (∀ k, k < 67 → k ≠ 14 → t'.get k = t0.get k) ∧ Iz q true S' ∧ Gr q S0 S')
  | 0, j, t, S, hj, ht, h6, h65, h66, h67, hS, hf, hk => by
    refine Fc (Es ?_)
    have hlt : ¬ ((j : Int) < (l.length : Int)) := by omega
    have g66 := (ht 66 (by decide) (by decide)).trans h66
    simp only [↓D1,E7,E6,A3,A6,Bb,Bc,Cr,Bn,B4,C9,Cu,B5,Cs,Ct,Da,Ci,Ee,Ey,Ez,Dv,D8,D9,D2,De,B6,Bm,Ei,D7,D0,Ej,Eg,Ef,E3,E4,Fd,Fe,Bv,C0,Cz,C1,A0,A1,C2,Dd,ofOpt,ofOptS,Bw,Dh,Di,Cj,Cl,Bk,Bl,C4,Bj,Df,A7,Bd,Cm,Cn,Co,Cp,Cq,B3,B1,Nat.reduceLT,Nat.reduceAdd,Nat.reduceEqDiff,Aa,Ab,reduceIte,Ac,Ad,Ae,Af,Ag,Ah,Ai,Aj,Ak,Al,Am,Ao,Ap,Aq,Ar,Au,Av,Aw,Option.toList,Ay,Az,Tryz.f5,Et,Gj,B7,B8,Cb,Ia,H9,Ig,Ie,Ic,Ib,Ij,Ii,Ih,g66,h67,hlt]
    refine ⟨_, _, rfl, fun k h1 h2 => ?_, hf, hk⟩
    rw [T.get_set, if_neg (by omega)]; exact ht k h1 h2
  | m + 1, j, t, S, hj, ht, h6, h65, h66, h67, hS, hf, hk => by
    refine Fc (Es ?_)
    have hjl : j < l.length := by omega
    have hlt : ((j : Int) < (l.length : Int)) := by omega
    have g6 := (ht 6 (by decide) (by decide)).trans h6
    have g65 := (ht 65 (by decide) (by decide)).trans h65
    have g66 := (ht 66 (by decide) (by decide)).trans h66
    obtain ⟨fn1, hf1⟩ := Y2
    have q1 := idxT e55 Zr tok off (l.map Gc) j (by simpa using hjl)
    have ec : ((l.map Gc)[j]'(by simpa using hjl)).cells = Hq l[j] := by simp [Gc, AV.cells]
    rw [ec] at q1
    have q2 := lepT ag59 Zr S (Hq l[j]) rfl
    have q3 := stT Zr (Ea S bY) rfl (ys := Hq l[j]) rfl
    obtain ⟨k3, g3, l3⟩ := Yp S bY (Hq l[j])
    generalize hS3 : (S.newBox bY).put S.next (Hq l[j]) = S3 at q3 k3 g3 l3
    have q4 := ldNm (r := []) (nm := l[j].1) (p := l[j].2) g3
    have q5 := q4.1
    have q6 := q4.2
    have hS4 := hS.keep (k3.b (q := q))
    have q7 := ld45 (hS4.2.2 (st, [Hz q tx]) (by simp)).2.2
    simp only [Hz] at q7
    have w1 : IntKind.i64.wrap ((j : Int) + 1) = ((j + 1 : Nat) : Int) := Hv (j := 1) (by omega)
    simp only [↓D1,E7,E6,A3,A6,Bb,Bc,Cr,Bn,B4,C9,Cu,B5,Cs,Ct,Da,Ci,Ee,Ey,Ez,Dv,D8,D9,D2,De,B6,Bm,Ei,D7,D0,Ej,Eg,Ef,E3,E4,Fd,Fe,Bv,C0,Cz,C1,A0,A1,C2,Dd,ofOpt,ofOptS,Bw,Dh,Di,Cj,Cl,Bk,Bl,C4,Bj,Df,A7,Bd,Cm,Cn,Co,Cp,Cq,B3,B1,Nat.reduceLT,Nat.reduceAdd,Nat.reduceEqDiff,Aa,Ab,reduceIte,Ac,Ad,Ae,Af,Ag,Ah,Ai,Aj,Ak,Al,Am,Ao,Ap,Aq,Ar,Au,Av,Aw,Option.toList,Ay,Az,Tryz.f5,Et,Gj,B7,B8,Cb,Ia,H9,Ig,Ie,Ic,Ib,Ij,Ii,Ih,g6,g65,g66,h67,hlt,q1,q2,q3,q5,q6,q7,hf1,Fy]
    refine WC.mono (ask hs S3 l[j].1 l[j].2 (hgood _ (List.getElem_mem hjl)) hS4 (hf.keep hS.2.1 k3)) ?_
    rintro _ ⟨S5, rfl, f5, k5⟩
    simp only [↓D1,E7,E6,A3,A6,Bb,Bc,Cr,Bn,B4,C9,Cu,B5,Cs,Ct,Da,Ci,Ee,Ey,Ez,Dv,D8,D9,D2,De,B6,Bm,Ei,D7,D0,Ej,Eg,Ef,E3,E4,Fd,Fe,Bv,C0,Cz,C1,A0,A1,C2,Dd,ofOpt,ofOptS,Bw,Dh,Di,Cj,Cl,Bk,Bl,C4,Bj,Df,A7,Bd,Cm,Cn,Co,Cp,Cq,B3,B1,Nat.reduceLT,Nat.reduceAdd,Nat.reduceEqDiff,Aa,Ab,reduceIte,Ac,Ad,Ae,Af,Ag,Ah,Ai,Aj,Ak,Al,Am,Ao,Ap,Aq,Ar,Au,Av,Aw,Option.toList,Ay,Az,Tryz.f5,Et,Gj,B7,B8,Cb,Ia,H9,Ig,Ie,Ic,Ib,Ij,Ii,Ih,g6,g65,g66,h67,w1]
    refine U8 S0 tok off l hl hgood t0 m (j + 1) _ S5 (by omega) (fun k h1 h2 => ?_) h6 h65 h66 (by simp [T.get_set]) (hS4.keep k5) f5 (hk.trans (k3.b.trans k5))
    simp only [A0]
    repeat rw [if_neg (by omega)]
    exact ht k h1 h2
set_option maxHeartbeats 16000000 in
theorem Vo (S0 : St) (v : AV) (l : List PD) (hv : K4 v (l.map Ga)) (hl : l.length ≤ 1000000) (hgood : ∀ x ∈ l, V5 s x) (t0 : T AV) : ∀ (m j : Nat) (t : T AV) (S : St), j + m = l.length → (∀ k, k < 46 → k ≠ 10 → t.get k = t0.get k) →
    t0.get 6 = some (.ptr st 0) → t0.get 44 = some v → t0.get 45 = some (.v (.int .i64 (l.length : Int))) → t.get 46 = some (.v (.int .i64 (j : Int))) → Mw q [(tx, [D5 s]), (st, [Hz q tx])] S → Iz q true S → Gr q S0 S →
    WX E1 85 (.loop (Gj 2)) ⟨t, []⟩ S (fun r => ∃ t' S', r = .out (.exit 2) ⟨t', []⟩ S' ∧ (∀ k, k < 46 → k ≠ 10 → t'.get k = t0.get k) ∧ Iz q true S' ∧ Gr q S0 S')
  | 0, j, t, S, hj, ht, h6, h44, h45, h46, hS, hf, hk => by
    refine Fc (Es ?_)
    have hlt : ¬ ((j : Int) < (l.length : Int)) := by omega
    have g45 := (ht 45 (by decide) (by decide)).trans h45
    simp only [↓D1,E7,E6,A3,A6,Bb,Bc,Cr,Bn,B4,C9,Cu,B5,Cs,Ct,Da,Ci,Ee,Ey,Ez,Dv,D8,D9,D2,De,B6,Bm,Ei,D7,D0,Ej,Eg,Ef,E3,E4,Fd,Fe,Bv,C0,Cz,C1,A0,A1,C2,Dd,ofOpt,ofOptS,Bw,Dh,Di,Cj,Cl,Bk,Bl,C4,Bj,Df,A7,Bd,Cm,Cn,Co,Cp,Cq,B3,B1,Nat.reduceLT,Nat.reduceAdd,Nat.reduceEqDiff,Aa,Ab,reduceIte,Ac,Ad,Ae,Af,Ag,Ah,Ai,Aj,Ak,Al,Am,Ao,Ap,Aq,Ar,Au,Av,Aw,Option.toList,Ay,Az,Tryz.f5,Et,Gj,B7,B8,Cb,Ia,H9,Ig,Ie,Ic,Ib,Ij,Ii,Ih,g45,h46,hlt]
    refine ⟨_, _, rfl, fun k h1 h2 => ?_, hf, hk⟩
    rw [T.get_set, if_neg (by omega)]; exact ht k h1 h2
  | m + 1, j, t, S, hj, ht, h6, h44, h45, h46, hS, hf, hk => by
    refine Fc (Es ?_)
    have hjl : j < l.length := by omega
    have hlt : ((j : Int) < (l.length : Int)) := by omega
    have g6 := (ht 6 (by decide) (by decide)).trans h6
    have g44 := (ht 44 (by decide) (by decide)).trans h44
    have g45 := (ht 45 (by decide) (by decide)).trans h45
    obtain ⟨fn1, hf1⟩ := Y2
    obtain ⟨tok, off, rfl⟩ : ∃ tok off, v = .sl tok off 6 (l.map Ga) := by
      rcases hv with ⟨_, h⟩ | h
      · have : l = [] := by simpa using h
        subst this; simp at hjl
      · exact h
    have q1 := idxT e46' T8 tok off (l.map Ga) j (by simpa using hjl)
    have ec : ((l.map Ga)[j]'(by simpa using hjl)).cells = Gp l[j] := by simp [Ga, AV.cells]
    rw [ec] at q1
    have q2 := lepT eE T8 S (Gp l[j]) rfl
    have q3 := stT T8 (Ea S Zj) rfl (ys := Gp l[j]) rfl
    obtain ⟨k3, g3, l3⟩ := Yp S Zj (Gp l[j])
    generalize hS3 : (S.newBox Zj).put S.next (Gp l[j]) = S3 at q3 k3 g3 l3
    have q4 := ldNm (nm := l[j].name) (p := l[j].pos) g3
    have q5 := q4.1
    have q6 := q4.2
    have hS4 := hS.keep (k3.b (q := q))
    have q7 := ld45 (hS4.2.2 (st, [Hz q tx]) (by simp)).2.2
    simp only [Hz] at q7
    have w1 : IntKind.i64.wrap ((j : Int) + 1) = ((j + 1 : Nat) : Int) := Hv (j := 1) (by omega)
    simp only [↓D1,E7,E6,A3,A6,Bb,Bc,Cr,Bn,B4,C9,Cu,B5,Cs,Ct,Da,Ci,Ee,Ey,Ez,Dv,D8,D9,D2,De,B6,Bm,Ei,D7,D0,Ej,Eg,Ef,E3,E4,Fd,Fe,Bv,C0,Cz,C1,A0,A1,C2,Dd,ofOpt,ofOptS,Bw,Dh,Di,Cj,Cl,Bk,Bl,C4,Bj,Df,A7,Bd,Cm,Cn,Co,Cp,Cq,B3,B1,Nat.reduceLT,Nat.reduceAdd,Nat.reduceEqDiff,Aa,Ab,reduceIte,Ac,Ad,Ae,Af,Ag,Ah,Ai,Aj,Ak,Al,Am,Ao,Ap,Aq,Ar,Au,Av,Aw,Option.toList,Ay,Az,Tryz.f5,Et,Gj,B7,B8,Cb,Ia,H9,Ig,Ie,Ic,Ib,Ij,Ii,Ih,g6,g44,g45,h46,hlt,q1,q2,q3,q5,q6,q7,hf1,G4]
    refine WC.mono (ask hs S3 l[j].name l[j].pos (hgood _ (List.getElem_mem hjl)) hS4 (hf.keep hS.2.1 k3)) ?_
    rintro _ ⟨S5, rfl, f5, k5⟩
    simp only [↓D1,E7,E6,A3,A6,Bb,Bc,Cr,Bn,B4,C9,Cu,B5,Cs,Ct,Da,Ci,Ee,Ey,Ez,Dv,D8,D9,D2,De,B6,Bm,Ei,D7,D0,Ej,Eg,Ef,E3,E4,Fd,Fe,Bv,C0,Cz,C1,A0,A1,C2,Dd,ofOpt,ofOptS,Bw,Dh,Di,Cj,Cl,Bk,Bl,C4,Bj,Df,A7,Bd,Cm,Cn,Co,Cp,Cq,B3,B1,Nat.reduceLT,Nat.reduceAdd,Nat.reduceEqDiff,Aa,Ab,reduceIte,Ac,Ad,Ae,Af,Ag,Ah,Ai,Aj,Ak,Al,Am,Ao,Ap,Aq,Ar,Au,Av,Aw,Option.toList,Ay,Az,Tryz.f5,Et,Gj,B7,B8,Cb,Ia,H9,Ig,Ie,Ic,Ib,Ij,Ii,Ih,g6,g44,g45,h46,w1]
    refine Vo S0 _ l (.inr ⟨tok, off, rfl⟩) hl hgood t0 m (j + 1) _ S5 (by omega) (fun k h1 h2 => ?_) h6 h44 h45 (by simp [T.get_set]) (hS4.keep k5) f5 (hk.trans (k3.b.trans k5))
    simp only [A0]
    repeat rw [if_neg (by omega)]
    exact ht k h1 h2
omit hs in
theorem EqRows.get : ∀ {es : List AV} {l : List PQ}, EqRows es l → ∀ (j : Nat) (h : j < es.length) (h2 : j < l.length), iZ es[j] l[j]
  | _, _, .nil, j, h, _ => absurd h (Nat.not_lt_zero _)
  | _, _, .cons a q r l h1 h2, 0, _, _ => h1
  | _, _, .cons a q r l h1 h2, j + 1, h, h' => h2.get j (by simpa using h) (by simpa using h')
omit hs in
theorem len55 (S : St) {v : AV} {l : List (List UInt8 × Nat)} (h : J1 2 Gc v l) : Ji Tryz.prog S 55 v = some l.length := by
  have u55 : Tryz.prog.underlying 55 = some (.slice 59) := by kernel_rfl
  rcases h with ⟨rfl, rfl⟩ | ⟨tok, off, rfl⟩ <;> simp [Ji, u55]
omit hs in
theorem mQ {S : St} {id : Nat} {lv : AV} {a : Bool} {xs : List AV} (h : S.mem.get id = some (.box (eqC lv a xs))) (hx : xs.length = 6) : Dw Tryz.prog S 55 (.ptr id 0) = some lv ∧ Dw Tryz.prog S 30 (.ptr id 2) = some (.agg xs) := by
  have a55 : Fv Tryz.prog 55 = some false := by kernel_rfl
  have e : xs.take 6 = xs := List.take_of_length_le (by omega)
  constructor
  · simp [Dw, D6, h, a55, eqC]
  · simp [Dw, D6, h, a30, s30, eqC, e, hx]
set_option maxHeartbeats 16000000 in
theorem sees24 (hB : True) : Sees q [(tx, [D5 s]), (st, [Hz q tx])] 24 [.ptr st 0] (Jx s) := by
  refine ⟨fnOk24, fun e kv S hg hkv hS hf => ?_⟩
  have hg' : stB s (Pu e) (Wz e) = true := hg
  have hle := kP hg'
  have h := kI q tx st s hs e kv (by omega) (by omega) S true hS hf
  rw [hg'] at h
  exact h
set_option maxHeartbeats 16000000 in
theorem Xk {L : Nat} (hL : L ≤ 1000000) (S0 : St) (v : AV) (es : List AV) (l : List PQ) (hv : (v = .nils ∧ es = []) ∨ ∃ tok off, v = .sl tok off 8 es) (hes : EqRows es l) (hl : es.length ≤ 1000000) (hgood : ∀ x ∈ l, bU s L x) (t0 : T AV) : ∀ (m j : Nat) (t : T AV) (S : St), j + m = es.length → (∀ k, k < 60 → k ≠ 12 → k ≠ 14 → t.get k = t0.get k) →
    t0.get 6 = some (.ptr st 0) → t0.get 58 = some v → t0.get 59 = some (.v (.int .i64 (es.length : Int))) → t.get 60 = some (.v (.int .i64 (j : Int))) → Mw q [(tx, [D5 s]), (st, [Hz q tx])] S → Iz q true S → Gr q S0 S →
    WX E1 85 (.loop (Gj 4)) ⟨t, []⟩ S (fun r => ∃ t' S', r = .out (.exit 4) ⟨t', []⟩ S' ∧ (∀ k, k < 60 → k ≠ 12 → k ≠ 14 → t'.get k = t0.get k) ∧ Iz q true S' ∧ Gr q S0 S')
  | 0, j, t, S, hj, ht, h6, h58, h59, h60, hS, hf, hk => by
    refine Fc (Es ?_)
    have hlt : ¬ ((j : Int) < (es.length : Int)) := by omega
    have g59 := (ht 59 (by decide) (by decide) (by decide)).trans h59
    simp only [↓D1,E7,E6,A3,A6,Bb,Bc,Cr,Bn,B4,C9,Cu,B5,Cs,Ct,Da,Ci,Ee,Ey,Ez,Dv,D8,D9,D2,De,B6,Bm,Ei,D7,D0,Ej,Eg,Ef,E3,E4,Fd,Fe,Bv,C0,Cz,C1,A0,A1,C2,Dd,ofOpt,ofOptS,Bw,Dh,Di,Cj,Cl,Bk,Bl,C4,Bj,Df,A7,Bd,Cm,Cn,Co,Cp,Cq,B3,B1,Nat.reduceLT,Nat.reduceAdd,Nat.reduceEqDiff,Aa,Ab,reduceIte,Ac,Ad,Ae,Af,Ag,Ah,Ai,Aj,Ak,Al,Am,Ao,Ap,Aq,Ar,Au,Av,Aw,Option.toList,Ay,Az,Tryz.f5,Et,Gj,B7,B8,Cb,Ia,H9,Ig,Ie,Ic,Ib,Ij,Ii,Ih,g59,h60,hlt]
    refine ⟨_, _, rfl, fun k h1 h2 h3 => ?_, hf, hk⟩
    rw [T.get_set, if_neg (by omega)]; exact ht k h1 h2 h3
  | m + 1, j, t, S, hj, ht, h6, h58, h59, h60, hS, hf, hk => by
    refine Fc (Es ?_)
    have hjl : j < es.length := by omega
    have hjl2 : j < l.length := by rw [← hes.len]; exact hjl
    have hlt : ((j : Int) < (es.length : Int)) := by omega
    have g6 := (ht 6 (by decide) (by decide) (by decide)).trans h6
    have g58 := (ht 58 (by decide) (by decide) (by decide)).trans h58
    have g59 := (ht 59 (by decide) (by decide) (by decide)).trans h59
    obtain ⟨fn2, hf2⟩ := nG
    obtain ⟨tok, off, rfl⟩ : ∃ tok off, v = .sl tok off 8 es := by
      rcases hv with ⟨_, h⟩ | h
      · subst h; simp at hjl
      · exact h
    obtain ⟨lv, xs, heq, hrow, hxl, hrep⟩ := hes.get j hjl hjl2
    have q1 := idxT e47' X6 tok off es j hjl
    rw [heq] at q1
    have q1 : Ff Tryz.prog 47 (.sl tok off 8 es) (.v (.int .i64 (j : Int))) = some (.ep (eqC lv l[j].async xs)) := q1
    have q2 := lepT oR X6 S (eqC lv l[j].async xs) (by simp [eqC, hxl])
    have q3 := stT X6 (Ea S bZ) rfl (ys := eqC lv l[j].async xs) (by simp [eqC, hxl])
    obtain ⟨k3, g3, l3⟩ := Yp S bZ (eqC lv l[j].async xs)
    generalize hS3 : (S.newBox bZ).put S.next (eqC lv l[j].async xs) = S3 at q3 k3 g3 l3
    obtain ⟨q4, q5⟩ := mQ g3 hxl
    have q6 := len55 S3 hrow
    have hS4 := hS.keep (k3.b (q := q))
    have hf4 := hf.keep hS.2.1 k3
    have w1 : IntKind.i64.wrap ((j : Int) + 1) = ((j + 1 : Nat) : Int) := Hv (j := 1) (by omega)
    have hne : S.next ≠ q := fun e => by have := hS.2.1; omega
    have inner : ∀ (t1 : T AV), (∀ k, k < 60 → k ≠ 12 → k ≠ 14 → t1.get k = t0.get k) → t1.get 12 = some (.ptr S.next 0) → t1.get 60 = some (.v (.int .i64 (j : Int))) → t1.get 65 = some lv → t1.get 66 = some (.v (.int .i64 (l[j].left.length : Int))) → t1.get 67 = some (.v (.int .i64 0)) →
        WX E1 85 (.loop (Gj 6)) ⟨t1, []⟩ S3 (fun r => ∃ t' S', r = .out (.exit 6) ⟨t', []⟩ S' ∧ (∀ k, k < 67 → k ≠ 14 → t'.get k = t1.get k) ∧ Iz q true S' ∧ Gr q S0 S' ∧ Gr q S3 S') := fun t1 a1 a2 a3 a4 a5 a6 => by
      rcases hrow with ⟨rfl, hnil⟩ | ⟨tok2, off2, rfl⟩
      · rw [hnil] at a5
        refine WX.mono (dB t1 S3 a5 a6) ?_
        rintro r ⟨t', h1, h2⟩
        exact ⟨t', S3, h1, h2, hf4, hk.trans k3.b, Gr.refl q S3⟩
      · refine WX.mono (U8 hs S3 tok2 off2 l[j].left (Nat.le_trans (hgood _ (List.getElem_mem hjl2)).2.2 hL) ((hgood _ (List.getElem_mem hjl2)).1) t1 l[j].left.length 0 t1 S3 (by omega) (fun _ _ _ => rfl) ((a1 6 (by decide) (by decide) (by decide)).trans h6) a4 a5 a6 hS4 hf4 (Gr.refl q S3)) ?_
        rintro r ⟨t', S', h1, h2, h3, h4⟩
        exact ⟨t', S', h1, h2, h3, hk.trans (k3.b.trans h4), h4⟩
    unfold Gj at inner
    simp only [Tryz.f5,Et,Nat.reduceEqDiff,Aa,Ab,reduceIte] at inner
    simp only [↓D1,E7,E6,A3,A6,Bb,Bc,Cr,Bn,B4,C9,Cu,B5,Cs,Ct,Da,Ci,Ee,Ey,Ez,Dv,D8,D9,D2,De,B6,Bm,Ei,D7,D0,Ej,Eg,Ef,E3,E4,Fd,Fe,Bv,C0,Cz,C1,A0,A1,C2,Dd,ofOpt,ofOptS,Bw,Dh,Di,Cj,Cl,Bk,Bl,C4,Bj,Df,A7,Bd,Cm,Cn,Co,Cp,Cq,B3,B1,Nat.reduceLT,Nat.reduceAdd,Nat.reduceEqDiff,Aa,Ab,reduceIte,Ac,Ad,Ae,Af,Ag,Ah,Ai,Aj,Ak,Al,Am,Ao,Ap,Aq,Ar,Au,Av,Aw,Option.toList,Ay,Az,Tryz.f5,Et,Gj,B7,B8,Cb,Ia,H9,Ig,Ie,Ic,Ib,Ij,Ii,Ih,g6,g58,g59,h60,hlt,q1,q2,q3,q4,q6,Kt]
    refine WX.mono (inner _ (fun k h1 h2 h3 => ?_) (by simp [T.get_set]) (by simp [T.get_set, h60]) (by simp [T.get_set]) (by simp [T.get_set]) (by simp [T.get_set])) ?_
    · simp only [A0]
      repeat rw [if_neg (by omega)]
      exact ht k h1 h2 h3
    rintro r ⟨t', S5, rfl, p1, f5, k5, k35⟩
    have g3' : S5.mem.get S.next = some (.box (eqC lv l[j].async xs)) := (k35.2 _ l3 hne).trans g3
    have q8 := (mQ g3' hxl).2
    have b6 := (p1 6 (by decide) (by decide)).trans (by simp [T.get_set, g6] : _ = some (AV.ptr st 0))
    have b12 := (p1 12 (by decide) (by decide)).trans (by simp [T.get_set] : _ = some (AV.ptr S.next 0))
    have b60 := (p1 60 (by decide) (by decide)).trans (by simp [T.get_set, h60] : _ = some (AV.v (.int .i64 (j : Int))))
    simp only [↓D1,E7,E6,A3,A6,Bb,Bc,Cr,Bn,B4,C9,Cu,B5,Cs,Ct,Da,Ci,Ee,Ey,Ez,Dv,D8,D9,D2,De,B6,Bm,Ei,D7,D0,Ej,Eg,Ef,E3,E4,Fd,Fe,Bv,C0,Cz,C1,A0,A1,C2,Dd,ofOpt,ofOptS,Bw,Dh,Di,Cj,Cl,Bk,Bl,C4,Bj,Df,A7,Bd,Cm,Cn,Co,Cp,Cq,B3,B1,Nat.reduceLT,Nat.reduceAdd,Nat.reduceEqDiff,Aa,Ab,reduceIte,Ac,Ad,Ae,Af,Ag,Ah,Ai,Aj,Ak,Al,Am,Ao,Ap,Aq,Ar,Au,Av,Aw,Option.toList,Ay,Az,Tryz.f5,Et,Gj,B7,B8,Cb,Ia,H9,Ig,Ie,Ic,Ib,Ij,Ii,Ih,b6,b12,b60,q8,hf2]
    refine WC.mono (each_w (sees24 hs trivial) ((hgood _ (List.getElem_mem hjl2)).2.1) xs hrep S5 (hS4.keep k35) f5) ?_
    rintro _ ⟨S6, rfl, f6, k6⟩
    simp only [↓D1,E7,E6,A3,A6,Bb,Bc,Cr,Bn,B4,C9,Cu,B5,Cs,Ct,Da,Ci,Ee,Ey,Ez,Dv,D8,D9,D2,De,B6,Bm,Ei,D7,D0,Ej,Eg,Ef,E3,E4,Fd,Fe,Bv,C0,Cz,C1,A0,A1,C2,Dd,ofOpt,ofOptS,Bw,Dh,Di,Cj,Cl,Bk,Bl,C4,Bj,Df,A7,Bd,Cm,Cn,Co,Cp,Cq,B3,B1,Nat.reduceLT,Nat.reduceAdd,Nat.reduceEqDiff,Aa,Ab,reduceIte,Ac,Ad,Ae,Af,Ag,Ah,Ai,Aj,Ak,Al,Am,Ao,Ap,Aq,Ar,Au,Av,Aw,Option.toList,Ay,Az,Tryz.f5,Et,Gj,B7,B8,Cb,Ia,H9,Ig,Ie,Ic,Ib,Ij,Ii,Ih,b6,b12,b60,w1]
    refine Xk hL S0 _ es l (.inr ⟨tok, off, rfl⟩) hes hl hgood t0 m (j + 1) _ S6 (by omega) (fun k h1 h2 h3 => ?_) h6 h58 h59 (by simp [T.get_set]) ((hS4.keep k35).keep k6) f6 (k5.trans k6)
    simp only [A0]
    repeat rw [if_neg (by omega)]
    refine (p1 k (by omega) h3).trans ?_
    simp only [A0]
    repeat rw [if_neg (by omega)]
    exact ht k h1 h2 h3
omit hs in
theorem NodeRows.get : ∀ {es : List AV} {l : List PN}, NodeRows es l → ∀ (j : Nat) (h : j < es.length) (h2 : j < l.length), Yw es[j] l[j]
  | _, _, .nil, j, h, _ => absurd h (Nat.not_lt_zero _)
  | _, _, .cons a q r l h1 h2, 0, _, _ => h1
  | _, _, .cons a q r l h1 h2, j + 1, h, h' => h2.get j (by simpa using h) (by simpa using h')
omit hs in
theorem NodeRows.len5 : ∀ {es : List AV} {l : List PN}, NodeRows es l → es.length = l.length
  | _, _, .nil => rfl
  | _, _, .cons a q r l h1 h2 => by simp [h2.len5]
omit hs in
theorem Uj {v : AV} {l : List PD} (h : J1 6 Ga v l) : K4 v (l.map Ga) := by
  rcases h with ⟨rfl, rfl⟩ | ⟨tok, off, rfl⟩
  · exact .inl ⟨rfl, rfl⟩
  · exact .inr ⟨tok, off, rfl⟩
omit hs in
theorem len47 (S : St) {v : AV} {es : List AV} (h : (v = .nils ∧ es = []) ∨ ∃ tok off, v = .sl tok off 8 es) : Ji Tryz.prog S 47 v = some es.length := by
  have u47 : Tryz.prog.underlying 47 = some (.slice 57) := by kernel_rfl
  rcases h with ⟨rfl, rfl⟩ | ⟨tok, off, rfl⟩ <;> simp [Ji, u47]
omit hs in
omit hs in
theorem fnOk22 : ∃ fn, E1.F 22 = some fn := Option.isSome_iff_exists.1 (by kernel_rfl)
set_option maxHeartbeats 16000000 in
theorem U1 {L : Nat} (hL : L ≤ 3000) (S0 : St) (tok off : Nat) (es : List AV) (l : List PN) (hes : NodeRows es l) (hl : es.length ≤ 1000000) (hgood : ∀ x ∈ l, V4 s L x) (t0 : T AV) : ∀ (m j : Nat) (t : T AV) (S : St), j + m = es.length → (∀ k, k < 33 → k ≠ 8 → k ≠ 10 → k ≠ 12 → k ≠ 14 → t.get k = t0.get k) →
    t0.get 6 = some (.ptr st 0) → t0.get 31 = some (.sl tok off 6 es) → t0.get 32 = some (.v (.int .i64 (es.length : Int))) → t.get 33 = some (.v (.int .i64 (j : Int))) → Mw q [(tx, [D5 s]), (st, [Hz q tx])] S → Iz q true S → Gr q S0 S →
    WX E1 85 (.loop (Gj 0)) ⟨t, []⟩ S (fun r => ∃ t' S', r = .out (.exit 0) ⟨t', []⟩ S' ∧ (∀ k, k < 33 → k ≠ 8 → k ≠ 10 → k ≠ 12 → k ≠ 14 → t'.get k = t0.get k) ∧ Iz q true S' ∧ Gr q S0 S')
  | 0, j, t, S, hj, ht, h6, h31, h32, h33, hS, hf, hk => by
    refine Fc (Es ?_)
    have hlt : ¬ ((j : Int) < (es.length : Int)) := by omega
    have g32 := (ht 32 (by decide) (by decide) (by decide) (by decide) (by decide)).trans h32
    simp only [↓D1,E7,E6,A3,A6,Bb,Bc,Cr,Bn,B4,C9,Cu,B5,Cs,Ct,Da,Ci,Ee,Ey,Ez,Dv,D8,D9,D2,De,B6,Bm,Ei,D7,D0,Ej,Eg,Ef,E3,E4,Fd,Fe,Bv,C0,Cz,C1,A0,A1,C2,Dd,ofOpt,ofOptS,Bw,Dh,Di,Cj,Cl,Bk,Bl,C4,Bj,Df,A7,Bd,Cm,Cn,Co,Cp,Cq,B3,B1,Nat.reduceLT,Nat.reduceAdd,Nat.reduceEqDiff,Aa,Ab,reduceIte,Ac,Ad,Ae,Af,Ag,Ah,Ai,Aj,Ak,Al,Am,Ao,Ap,Aq,Ar,Au,Av,Aw,Option.toList,Ay,Az,Tryz.f5,Et,Gj,B7,B8,Cb,Ia,H9,Ig,Ie,Ic,Ib,Ij,Ii,Ih,g32,h33,hlt]
    refine ⟨_, _, rfl, fun k h1 h2 h3 h4 h5 => ?_, hf, hk⟩
    rw [T.get_set, if_neg (by omega)]; exact ht k h1 h2 h3 h4 h5
  | m + 1, j, t, S, hj, ht, h6, h31, h32, h33, hS, hf, hk => by
    refine Fc (Es ?_)
    have hjl : j < es.length := by omega
    have hjl2 : j < l.length := by rw [← hes.len5]; exact hjl
    have hlt : ((j : Int) < (es.length : Int)) := by omega
    have g6 := (ht 6 (by decide) (by decide) (by decide) (by decide) (by decide)).trans h6
    have g31 := (ht 31 (by decide) (by decide) (by decide) (by decide) (by decide)).trans h31
    have g32 := (ht 32 (by decide) (by decide) (by decide) (by decide) (by decide)).trans h32
    obtain ⟨fn1, hf1⟩ := Y2
    obtain ⟨fn2, hf2⟩ := fnOk22
    obtain ⟨a, b, c, d, qs, heq, ha, hb, hc, hd, hqs⟩ := hes.get j hjl hjl2
    obtain ⟨gd1, gd2, gd3, gd4, gd5⟩ := hgood _ (List.getElem_mem hjl2)
    have hql : qs.length ≤ L := by rw [hqs.len]; exact gd5
    have q1 := idxT e40 V8 tok off es j hjl
    rw [heq] at q1
    have q1 : Ff Tryz.prog 40 (.sl tok off 6 es) (.v (.int .i64 (j : Int))) = some (.ep (Gm l[j].name l[j].pos a b c d)) := q1
    have q2 := lepT jY V8 S (Gm l[j].name l[j].pos a b c d) rfl
    have q3 := stT V8 (Ea S V7) rfl (ys := Gm l[j].name l[j].pos a b c d) rfl
    obtain ⟨k3, g3, l3⟩ := Yp S V7 (Gm l[j].name l[j].pos a b c d)
    generalize hS3 : (S.newBox V7).put S.next (Gm l[j].name l[j].pos a b c d) = S3 at q3 k3 g3 l3
    have q4 := ldNm (nm := l[j].name) (p := l[j].pos) g3
    have q5 := q4.1
    have q6 := q4.2
    have hS4 := hS.keep (k3.b (q := q))
    have q7 := ld45 (hS4.2.2 (st, [Hz q tx]) (by simp)).2.2
    simp only [Hz] at q7
    have hne : S.next ≠ q := fun e => by have := hS.2.1; omega
    have w1 : IntKind.i64.wrap ((j : Int) + 1) = ((j + 1 : Nat) : Int) := Hv (j := 1) (by omega)
    simp only [↓D1,E7,E6,A3,A6,Bb,Bc,Cr,Bn,B4,C9,Cu,B5,Cs,Ct,Da,Ci,Ee,Ey,Ez,Dv,D8,D9,D2,De,B6,Bm,Ei,D7,D0,Ej,Eg,Ef,E3,E4,Fd,Fe,Bv,C0,Cz,C1,A0,A1,C2,Dd,ofOpt,ofOptS,Bw,Dh,Di,Cj,Cl,Bk,Bl,C4,Bj,Df,A7,Bd,Cm,Cn,Co,Cp,Cq,B3,B1,Nat.reduceLT,Nat.reduceAdd,Nat.reduceEqDiff,Aa,Ab,reduceIte,Ac,Ad,Ae,Af,Ag,Ah,Ai,Aj,Ak,Al,Am,Ao,Ap,Aq,Ar,Au,Av,Aw,Option.toList,Ay,Az,Tryz.f5,Et,Gj,B7,B8,Cb,Ia,H9,Ig,Ie,Ic,Ib,Ij,Ii,Ih,g6,g31,g32,h33,hlt,q1,q2,q3,q5,q6,q7,hf1,I2]
    refine WC.mono (ask hs S3 l[j].name l[j].pos gd1 hS4 (hf.keep hS.2.1 k3)) ?_
    rintro _ ⟨S5, rfl, f5, k5⟩
    have hS5 := hS4.keep k5
    have g5 : S5.mem.get S.next = some (.box (Gm l[j].name l[j].pos a b c d)) := (k5.2 _ l3 hne).trans g3
    have r1 := ldT jY V8 g5 rfl
    simp only [↓D1,E7,E6,A3,A6,Bb,Bc,Cr,Bn,B4,C9,Cu,B5,Cs,Ct,Da,Ci,Ee,Ey,Ez,Dv,D8,D9,D2,De,B6,Bm,Ei,D7,D0,Ej,Eg,Ef,E3,E4,Fd,Fe,Bv,C0,Cz,C1,A0,A1,C2,Dd,ofOpt,ofOptS,Bw,Dh,Di,Cj,Cl,Bk,Bl,C4,Bj,Df,A7,Bd,Cm,Cn,Co,Cp,Cq,B3,B1,Nat.reduceLT,Nat.reduceAdd,Nat.reduceEqDiff,Aa,Ab,reduceIte,Ac,Ad,Ae,Af,Ag,Ah,Ai,Aj,Ak,Al,Am,Ao,Ap,Aq,Ar,Au,Av,Aw,Option.toList,Ay,Az,Tryz.f5,Et,Gj,B7,B8,Cb,Ia,H9,Ig,Ie,Ic,Ib,Ij,Ii,Ih,g6,g31,g32,h33,r1,hf2]
    refine WC.mono (gO (x0 := D5 l[j].name) (x1 := Dy l[j].pos) (d := d) (Uj ha) (Uj hb) (Uj hc) (by simp; omega) S5 hS5.1) ?_
    rintro _ ⟨v, S6, rfl, hrow, k6⟩
    have k6 : Fg S5 S6 := k6
    have hS6 := hS5.keep (k6.b (q := q))
    have f6 := f5.keep hS5.2.1 k6
    have e1 : l[j].ins.map Ga ++ l[j].outs.map Ga ++ l[j].vars.map Ga = (l[j].ins ++ l[j].outs ++ l[j].vars).map Ga := by simp
    rw [e1] at hrow
    have r2 := len46 S6 hrow.is
    rw [List.length_map] at r2
    have hdl : (l[j].ins ++ l[j].outs ++ l[j].vars).length ≤ 1000000 := by simp; omega
    have hd0 : 0 + (l[j].ins ++ l[j].outs ++ l[j].vars).length = (l[j].ins ++ l[j].outs ++ l[j].vars).length := Nat.zero_add _
    have dk := fun t1 b1 b2 b3 b4 => Vo hs (q := q) (tx := tx) (st := st) S6 v ((l[j]'hjl2).ins ++ (l[j]'hjl2).outs ++ (l[j]'hjl2).vars) hrow.is hdl gd2 t1 ((l[j]'hjl2).ins ++ (l[j]'hjl2).outs ++ (l[j]'hjl2).vars).length 0 t1 S6 hd0 (fun _ _ _ => rfl) b1 b2 b3 b4 hS6 f6 (Gr.refl q S6)
    unfold Gj at dk
    simp only [Tryz.f5,Et,Nat.reduceEqDiff,Aa,Ab,reduceIte] at dk
    simp only [↓D1,E7,E6,A3,A6,Bb,Bc,Cr,Bn,B4,C9,Cu,B5,Cs,Ct,Da,Ci,Ee,Ey,Ez,Dv,D8,D9,D2,De,B6,Bm,Ei,D7,D0,Ej,Eg,Ef,E3,E4,Fd,Fe,Bv,C0,Cz,C1,A0,A1,C2,Dd,ofOpt,ofOptS,Bw,Dh,Di,Cj,Cl,Bk,Bl,C4,Bj,Df,A7,Bd,Cm,Cn,Co,Cp,Cq,B3,B1,Nat.reduceLT,Nat.reduceAdd,Nat.reduceEqDiff,Aa,Ab,reduceIte,Ac,Ad,Ae,Af,Ag,Ah,Ai,Aj,Ak,Al,Am,Ao,Ap,Aq,Ar,Au,Av,Aw,Option.toList,Ay,Az,Tryz.f5,Et,Gj,B7,B8,Cb,Ia,H9,Ig,Ie,Ic,Ib,Ij,Ii,Ih,g6,g31,g32,h33,r2]
    refine WX.mono (dk _ (by simp [T.get_set, g6]) (by simp [T.get_set]) (by simp [T.get_set]) (by simp [T.get_set])) ?_
    rintro r ⟨t7, S7, rfl, p7, f7, k7⟩
    have hS7 := hS6.keep k7
    have g7 : S7.mem.get S.next = some (.box (Gm l[j].name l[j].pos a b c d)) := (k7.2 _ (Nat.lt_of_lt_of_le (Nat.lt_of_lt_of_le l3 k5.1) k6.1) hne).trans ((k6.2 _ (Nat.lt_of_lt_of_le l3 k5.1)).trans g5)
    have r3 := Yu g7
    have hd2 : (d = .nils ∧ qs = []) ∨ ∃ tok off, d = .sl tok off 8 qs := by
      rcases hd with h | ⟨tk, h⟩
      · exact .inl h
      · exact .inr ⟨tk, 0, h⟩
    have r4 := len47 S7 hd2
    have c6 := (p7 6 (by decide) (by decide)).trans (by simp [T.get_set, g6] : _ = some (AV.ptr st 0))
    have c8 := (p7 8 (by decide) (by decide)).trans (by simp [T.get_set] : _ = some (AV.ptr S.next 0))
    have c33 := (p7 33 (by decide) (by decide)).trans (by simp [T.get_set, h33] : _ = some (AV.v (.int .i64 (j : Int))))
    have hL2 : L ≤ 1000000 := by omega
    have hql2 : qs.length ≤ 1000000 := by omega
    have hq0 : 0 + qs.length = qs.length := Nat.zero_add _
    have qk := fun t1 b1 b2 b3 b4 => Xk hs (q := q) (tx := tx) (st := st) (L := L) hL2 S7 d qs (l[j]'hjl2).eqs hd2 hqs hql2 gd3 t1 qs.length 0 t1 S7 hq0 (fun _ _ _ _ => rfl) b1 b2 b3 b4 hS7 f7 (Gr.refl q S7)
    unfold Gj at qk
    simp only [Tryz.f5,Et,Nat.reduceEqDiff,Aa,Ab,reduceIte] at qk
    simp only [↓D1,E7,E6,A3,A6,Bb,Bc,Cr,Bn,B4,C9,Cu,B5,Cs,Ct,Da,Ci,Ee,Ey,Ez,Dv,D8,D9,D2,De,B6,Bm,Ei,D7,D0,Ej,Eg,Ef,E3,E4,Fd,Fe,Bv,C0,Cz,C1,A0,A1,C2,Dd,ofOpt,ofOptS,Bw,Dh,Di,Cj,Cl,Bk,Bl,C4,Bj,Df,A7,Bd,Cm,Cn,Co,Cp,Cq,B3,B1,Nat.reduceLT,Nat.reduceAdd,Nat.reduceEqDiff,Aa,Ab,reduceIte,Ac,Ad,Ae,Af,Ag,Ah,Ai,Aj,Ak,Al,Am,Ao,Ap,Aq,Ar,Au,Av,Aw,Option.toList,Ay,Az,Tryz.f5,Et,Gj,B7,B8,Cb,Ia,H9,Ig,Ie,Ic,Ib,Ij,Ii,Ih,c6,c8,c33,r3,r4]
    refine WX.mono (qk _ (by simp [T.get_set, c6]) (by simp [T.get_set]) (by simp [T.get_set]) (by simp [T.get_set])) ?_
    rintro r ⟨t9, S9, rfl, p9, f9, k9⟩
    have d33 := (p9 33 (by decide) (by decide) (by decide)).trans (by simp [T.get_set, c33] : _ = some (AV.v (.int .i64 (j : Int))))
    simp only [↓D1,E7,E6,A3,A6,Bb,Bc,Cr,Bn,B4,C9,Cu,B5,Cs,Ct,Da,Ci,Ee,Ey,Ez,Dv,D8,D9,D2,De,B6,Bm,Ei,D7,D0,Ej,Eg,Ef,E3,E4,Fd,Fe,Bv,C0,Cz,C1,A0,A1,C2,Dd,ofOpt,ofOptS,Bw,Dh,Di,Cj,Cl,Bk,Bl,C4,Bj,Df,A7,Bd,Cm,Cn,Co,Cp,Cq,B3,B1,Nat.reduceLT,Nat.reduceAdd,Nat.reduceEqDiff,Aa,Ab,reduceIte,Ac,Ad,Ae,Af,Ag,Ah,Ai,Aj,Ak,Al,Am,Ao,Ap,Aq,Ar,Au,Av,Aw,Option.toList,Ay,Az,Tryz.f5,Et,Gj,B7,B8,Cb,Ia,H9,Ig,Ie,Ic,Ib,Ij,Ii,Ih,d33,w1]
    refine U1 hL S0 tok off es l hes hl hgood t0 m (j + 1) _ S9 (by omega) (fun k h1 h2 h3 h4 h5 => ?_) h6 h31 h32 (by simp [T.get_set]) (hS7.keep k9) f9 (hk.trans (k3.b.trans (k5.trans (k6.b.trans (k7.trans k9)))))
    simp only [A0]
    repeat rw [if_neg (by omega)]
    refine (p9 k (by omega) h4 h5).trans ?_
    simp only [A0]
    repeat rw [if_neg (by omega)]
    refine (p7 k (by omega) h3).trans ?_
    simp only [A0]
    repeat rw [if_neg (by omega)]
    exact ht k h1 h2 h3 h4 h5
end
end Go.Ax
