/-
  The lexer's tokens stand in the text where they say.
-/
import Derived.Test.YtjgknelmjdallaaGreatDoorPlQg2
noncomputable section
namespace Go.Ax
open Go.RowKit Go.Proofs
set_option linter.unusedVariables false
set_option linter.unusedSimpArgs false
set_option maxRecDepth 100000
theorem Mb (l : List UInt8) (k : Nat) : l.take (l.take k).length = l.take k := by
  rw [List.length_take]
  by_cases h : k ≤ l.length
  · rw [Nat.min_eq_left h]
  · rw [Nat.min_eq_right (by omega), List.take_of_length_le (Nat.le_refl _), List.take_of_length_le (by omega)]
theorem iO {l : List UInt8} {i : Nat} {t : Tk} (h : Jk l i = some (t, 0)) : t.pos = i ∧ l.take t.text.length = t.text := by
  unfold Jk at h
  split at h
  · cases h
  · rename_i b r
    split at h
    · injection h with h
      unfold Mg at h
      split at h
      · injection h with h1 h2; subst h1; exact ⟨rfl, Mb _ _⟩
      · split at h
        · injection h with h1 h2; cases h2
        · injection h with h1 h2; subst h1; exact ⟨rfl, Mb _ _⟩
    · split at h
      · unfold aK at h
        split at h
        · injection h with h; injection h with h1 h2; cases h2
        · split at h
          · split at h
            · injection h with h; injection h with h1 h2; cases h2
            · injection h with h; injection h with h1 h2; subst h1; exact ⟨rfl, Mb _ _⟩
          · injection h with h; injection h with h1 h2; cases h2
      · injection h with h
        unfold Oa at h
        split at h
        · rename_i s hs
          injection h with h1 h2; subst h1
          have := List.find?_some hs
          unfold G5 at this
          exact ⟨rfl, by simpa using this⟩
        · injection h with h1 h2; cases h2
theorem gT (l : List UInt8) : ∀ (n i : Nat) (ts : List Tk), i ≤ l.length → O3 l n i = some (.inr ts) → ∀ j (h : j < ts.length), stB l ts[j].text ts[j].pos = true
  | 0, i, ts, hi, h, j, hj => by cases h
  | n + 1, i, ts, hi, h, j, hj => by
    unfold O3 at h
    split at h
    · rename_i hil
      split at h
      · cases h
      · rename_i p hp
        split at h
        · rename_i he
          split at h
          · cases h
          · cases h
          · rename_i ts2 h2
            injection h with h; injection h with h; subst h
            have hq : Jk (l.drop i) i = some (p.1, 0) := by rw [hp, ← he]
            obtain ⟨t1, t2⟩ := iO hq
            have t3 := Qu hq
            rw [List.length_drop] at t3
            cases j with
            | zero =>
              show stB l p.1.text p.1.pos = true
              unfold stB
              rw [t1, t2, Bool.and_eq_true]
              exact ⟨decide_eq_true (by omega), decide_eq_true rfl⟩
            | succ j =>
              have hs := Jh (l.length + 1) (l.drop (i + p.1.text.length))
              rw [List.length_drop] at hs
              exact gT l n _ ts2 (by omega) h2 j (by simpa using hj)
        · cases h
    · injection h with h; injection h with h; subst h
      have : j = 0 := by simp at hj; exact hj
      subst this
      show stB l [] l.length = true
      unfold stB
      simp
theorem lexL_at {l : List UInt8} {ts : List Tk} (h : Me l = some (.inr ts)) : L1 l ts := by
  unfold Me at h
  split at h
  · cases h
  · intro i hi
    rw [Iu hi]
    exact gT l _ _ ts (Jh _ _) h i hi
theorem Vx (l : List UInt8) : ∀ (n i : Nat) (ts : List Tk), O3 l n i = some (.inr ts) → ts.length ≤ n
  | 0, i, ts, h => by cases h
  | n + 1, i, ts, h => by
    unfold O3 at h
    split at h
    · split at h
      · cases h
      · rename_i p hp
        split at h
        · rename_i he
          split at h
          · cases h
          · cases h
          · rename_i ts2 h2
            injection h with h; injection h with h; subst h
            have := Vx l n _ ts2 h2
            simp; omega
        · cases h
    · injection h with h; injection h with h; subst h
      simp
theorem mK {l : List UInt8} {ts : List Tk} (h : Me l = some (.inr ts)) : ts.length ≤ 4001 := by
  unfold Me at h
  split at h
  · cases h
  · have := Vx l _ _ ts h; omega
theorem iV {l : List UInt8} {ts : List Tk} (h : Me l = some (.inr ts)) : ts.length ≤ l.length + 1 := by
  unfold Me at h
  split at h
  · cases h
  · exact Vx l _ _ ts h
/-- What is read of a text: enough fuel, and all is where it says. -/
theorem read_s {l : List UInt8} {out : (Nat × Nat) ⊕ List Tk} (h : Me l = some out) : Pj 70000 out ≠ none ∧ ∀ ns, Pj 70000 out = some (.inl ns) → (∀ n ∈ ns, V4 l (l.length + 1) n) ∧ ns.length ≤ l.length + 1 := by
  cases out with
  | inl x => exact ⟨(fun e => by cases e), (fun ns e => by cases e)⟩
  | inr ts =>
    obtain ⟨h1, h2⟩ := fL h
    have h3 := mK h
    have h4 := iV h
    have hs := iH h1 (lexL_at h) 70000 (by omega) (by decide) h2
    unfold Pj
    simp only
    cases hp : Hk ts 70000 0 with
    | out => exact absurd hp hs.1
    | bad a e => exact ⟨(fun e => by cases e), (fun ns e => by cases e)⟩
    | ok ns j =>
      obtain ⟨_, k1, k2⟩ := hs.2 ns j hp
      have key : (∀ n ∈ ns, V4 l (l.length + 1) n) ∧ ns.length ≤ l.length + 1 := ⟨fun n hn => by
        obtain ⟨a1, a2, a3, a4, a5⟩ := k1 n hn
        exact ⟨a1, a2, fun q hq => ⟨(a3 q hq).1, (a3 q hq).2.1, Nat.le_trans (a3 q hq).2.2 h4⟩, Nat.le_trans a4 h4, Nat.le_trans a5 h4⟩, Nat.le_trans k2 h4⟩
      simp only
      split
      · exact ⟨(fun e => by cases e), (fun ns' e => by injection e with e; injection e with e; subst e; exact key)⟩
      · exact ⟨(fun e => by cases e), (fun ns e => by cases e)⟩
end Go.Ax
