/-
  The lexer's tokens are what the parser asks of tokens.
-/
import Derived.Test.YtjgknelmjdallaaGreatDoorPlPp
noncomputable section
namespace Go.Ax
open Go.RowKit Go.Proofs
set_option linter.unusedVariables false
set_option linter.unusedSimpArgs false
set_option maxRecDepth 100000
theorem iQ {l : List UInt8} {i : Nat} {t : Tk} (h : Jk l i = some (t, 0)) : t.kind ≠ 5 := by
  unfold Jk at h
  split at h
  · cases h
  · rename_i b r
    split at h
    · injection h with h
      unfold Mg at h
      split at h
      · injection h with h1 h2; subst h1; exact fun e => by cases e
      · split at h
        · injection h with h1 h2; cases h2
        · injection h with h1 h2; subst h1; exact fun e => by cases e
    · split at h
      · unfold aK at h
        split at h
        · injection h with h; injection h with h1 h2; cases h2
        · split at h
          · split at h
            · injection h with h; injection h with h1 h2; cases h2
            · injection h with h; injection h with h1 h2; subst h1; exact fun e => by cases e
          · injection h with h; injection h with h1 h2; cases h2
      · injection h with h
        unfold Oa at h
        split at h
        · injection h with h1 h2; subst h1; exact fun e => by cases e
        · injection h with h1 h2; cases h2
theorem gS (l : List UInt8) : ∀ (n i : Nat) (ts : List Tk), O3 l n i = some (.inr ts) → 0 < ts.length ∧ (∀ j (h : j < ts.length), ts[j].kind ≠ 5 → j + 1 < ts.length) ∧ (∀ j (h : j < ts.length), ts[j].kind = 5 → ts[j].text = []) ∧ ts.length ≤ n
  | 0, i, ts, h => by cases h
  | n + 1, i, ts, h => by
    unfold O3 at h
    split at h
    · split at h
      · cases h
      · rename_i p hp
        split at h
        · rename_i he
          split at h
          · cases h
          · cases h
          · rename_i ts2 h2
            injection h with h; injection h with h; subst h
            obtain ⟨a1, a2, a3, a4⟩ := gS l n _ ts2 h2
            have hk : p.1.kind ≠ 5 := iQ (i := i) (by rw [hp, ← he])
            refine ⟨by simp, fun j hj hne => ?_, fun j hj he5 => ?_, by simp; omega⟩
            · cases j with
              | zero => simp; omega
              | succ j =>
                have := a2 j (by simpa using hj) (by simpa using hne)
                simp; omega
            · cases j with
              | zero => exact absurd he5 hk
              | succ j => exact a3 j (by simpa using hj) (by simpa using he5)
        · cases h
    · injection h with h; injection h with h; subst h
      refine ⟨by simp, fun j hj hne => ?_, fun j hj he5 => ?_, by simp⟩
      · have : j = 0 := by simp at hj; exact hj
        subst this
        exact absurd rfl hne
      · have : j = 0 := by simp at hj; exact hj
        subst this
        rfl
theorem bR (l : List UInt8) : ∀ (n i : Nat) (x : Nat × Nat), O3 l n i = some (.inl x) → x.2 ≠ 0
  | 0, i, x, h => by cases h
  | n + 1, i, x, h => by
    unfold O3 at h
    split at h
    · split at h
      · cases h
      · rename_i p hp
        split at h
        · split at h
          · cases h
          · rename_i y h2
            injection h with h; injection h with h; subst h
            exact bR l n _ _ h2
          · cases h
        · rename_i he
          injection h with h; injection h with h; subst h
          exact he
    · cases h
theorem fL {l : List UInt8} {ts : List Tk} (h : Me l = some (.inr ts)) : TokOk ts ∧ 0 < ts.length := by
  unfold Me at h
  split at h
  · cases h
  · obtain ⟨a1, a2, a3, a4⟩ := gS l _ _ ts h
    exact ⟨⟨a2, a3, by omega⟩, a1⟩
theorem mL {l : List UInt8} {x : Nat × Nat} (h : Me l = some (.inl x)) : x.2 ≠ 0 := by
  unfold Me at h
  split at h
  · injection h with h; injection h with h; subst h; exact fun e => by cases e
  · exact bR l _ _ x h
end Go.Ax
noncomputable section
namespace Go.Ax
open Go.RowKit Go.Proofs
set_option linter.unusedVariables false
set_option linter.unusedSimpArgs false
set_option maxRecDepth 100000

theorem fnOk56 : ∃ fn, E1.F 56 = some fn := Option.isSome_iff_exists.1 (by kernel_rfl)
set_option maxHeartbeats 16000000 in
theorem Us (l : List UInt8) (S : St) (hS : 2 ≤ S.next) (hsz : l.length ≤ 1000000) (out : (Nat × Nat) ⊕ List Tk) (hlx : Me l = some out) (n : Nat) (hn : n ≤ 1000000) (hok : Pj n out ≠ none) : WC E1 19 [D5 l] S (bT S (Pj n out)) := by
  refine Ek Tryz.f19 (by kernel_rfl) (by kernel_rfl) (by kernel_rfl) (show (_ : Nat) ≤ _ from by show (_ : Nat) ≤ _; simp [Tryz.f19]) ?_
  obtain ⟨fn1, hf1⟩ := fnOk56
  have k1 := Eb S (Eo 0 0)
  simp only [A3,A6,Bb,Bc,Cr,Bn,B4,C9,Cu,B5,Cs,Ct,Da,Ci,Be,Bo,Bp,A2,A9,Ba,A5,De,B6,Bm,Bh,A8,A4,Bi,Bg,Bf,Bq,Br,B9,Ca,Bv,C0,Cz,C1,A0,A1,C2,Dd,ofOpt,ofOptS,Bw,Dh,Di,Cj,Cl,Bk,Bl,C4,Bj,Df,A7,Bd,Cm,Cn,Co,Cp,Cq,B3,B1,Nat.reduceLT,Nat.reduceAdd,Nat.reduceEqDiff,Aa,Ab,reduceIte,Ac,Ad,Ae,Af,Ag,Ah,Ai,Aj,Ak,Al,Am,Ao,Ap,Aq,Ar,Au,Av,Aw,Option.toList,Ay,Az,Tryz.f19,Jt,Cb,hf1]
  refine WC.mono (read_p l (S.newBox (Eo 0 0)) (Nat.le_succ_of_le hS) hsz out hlx (fun x e => mL (e ▸ hlx)) n hn (fun ts e => ?_)) ?_
  · subst e
    obtain ⟨a1, a2⟩ := fL hlx
    refine ⟨a1, a2, fun e => hok ?_⟩
    unfold Pj
    simp only
    rw [e]
  · cases hR : Pj n out with
    | none => exact absurd hR hok
    | some y =>
      cases y with
      | inl ns =>
        rintro _ ⟨v, S2, rfl, hv, k2⟩
        have g5 : S2.mem.get S.next = some (.box (Eo 0 0)) := (k2.2 _ (Nat.lt_succ_self _)).trans (Ea S _)
        have q4 : Du Tryz.prog S2 33 (.ptr S.next 0) (.agg (Eo 0 0)) = some (S2.put S.next (Eo 0 0)) := Rw g5 rfl rfl
        have q5 := Jm S2 S.next (Eo 0 0) rfl
        simp only [A3,A6,Bb,Bc,Cr,Bn,B4,C9,Cu,B5,Cs,Ct,Da,Ci,Be,Bo,Bp,A2,A9,Ba,A5,De,B6,Bm,Bh,A8,A4,Bi,Bg,Bf,Bq,Br,B9,Ca,Bv,C0,Cz,C1,A0,A1,C2,Dd,ofOpt,ofOptS,Bw,Dh,Di,Cj,Cl,Bk,Bl,C4,Bj,Df,A7,Bd,Cm,Cn,Co,Cp,Cq,B3,B1,Nat.reduceLT,Nat.reduceAdd,Nat.reduceEqDiff,Aa,Ab,reduceIte,Ac,Ad,Ae,Af,Ag,Ah,Ai,Aj,Ak,Al,Am,Ao,Ap,Aq,Ar,Au,Av,Aw,Option.toList,Ay,Az,Tryz.f19,Jt,Cb,q4,q5]
        exact ⟨v, _, rfl, hv, E5 (k1.trans k2) (Nat.le_refl _) _⟩
      | inr y =>
        rintro _ ⟨S2, rfl, k2⟩
        have g5 : S2.mem.get S.next = some (.box (Eo 0 0)) := (k2.2 _ (Nat.lt_succ_self _)).trans (Ea S _)
        have q4 : Du Tryz.prog S2 33 (.ptr S.next 0) (.agg (Eo y.1 y.2)) = some (S2.put S.next (Eo y.1 y.2)) := Rw g5 rfl rfl
        have q5 := Jm S2 S.next (Eo y.1 y.2) rfl
        simp only [A3,A6,Bb,Bc,Cr,Bn,B4,C9,Cu,B5,Cs,Ct,Da,Ci,Be,Bo,Bp,A2,A9,Ba,A5,De,B6,Bm,Bh,A8,A4,Bi,Bg,Bf,Bq,Br,B9,Ca,Bv,C0,Cz,C1,A0,A1,C2,Dd,ofOpt,ofOptS,Bw,Dh,Di,Cj,Cl,Bk,Bl,C4,Bj,Df,A7,Bd,Cm,Cn,Co,Cp,Cq,B3,B1,Nat.reduceLT,Nat.reduceAdd,Nat.reduceEqDiff,Aa,Ab,reduceIte,Ac,Ad,Ae,Af,Ag,Ah,Ai,Aj,Ak,Al,Am,Ao,Ap,Aq,Ar,Au,Av,Aw,Option.toList,Ay,Az,Tryz.f19,Jt,Cb,q4,q5]
        exact ⟨_, rfl, E5 (k1.trans k2) (Nat.le_refl _) _⟩
end Go.Ax
noncomputable section
namespace Go.Ax
open Go.RowKit Go.Proofs
set_option linter.unusedVariables false
set_option linter.unusedSimpArgs false
set_option maxRecDepth 100000

section
variable {p k : Nat} {ts : List Tk} (hts : TokOk ts)
include hts
end
end Go.Ax
