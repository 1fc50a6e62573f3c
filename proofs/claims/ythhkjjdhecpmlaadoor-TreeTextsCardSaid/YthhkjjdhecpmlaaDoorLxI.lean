/-
  The lexer as a function of the text; what a token that is read is.
-/
import Derived.Test.YthhkjjdhecpmlaaDoorLxH
namespace Go.Proofs.YthhkjjdhecpmlaaDoor
open Go.RowKit
set_option linter.unusedVariables false
set_option linter.unusedSimpArgs false

/-- Token by token from k on, behind those of acc. -/
def lexF (s : ByteArray) : Nat → Nat → List Tk → (Nat × Int) ⊕ List Tk
  | 0, _, acc => .inr acc
  | f + 1, k, acc =>
    if h : k < s.size then
      (if (nextT s k s[k]).2 = 0 then lexF s f (skipN s (k + (nextT s k s[k]).1.text.size)) (acc ++ [(nextT s k s[k]).1]) else .inl (k, (nextT s k s[k]).2))
    else .inr (acc ++ [⟨5, s.size, ⟨#[]⟩, 0⟩])
def lexR (s : ByteArray) (k : Nat) (acc : List Tk) : (Nat × Int) ⊕ List Tk := lexF s (s.size + 1 - k) k acc

theorem beh_first {p : UInt8 → Bool} {s : ByteArray} {k : Nat} (h : k < s.size) (hp : p s[k] = true) : k + 1 ≤ beh p s k := by
  rw [beh_step h hp]; exact beh_le
theorem extract_size' {s : ByteArray} {k e : Nat} (h1 : k ≤ e) (h2 : e ≤ s.size) : (s.extract k e).size = e - k := by
  simp; omega

/-- What stands at its place. -/
def Stands (s : ByteArray) (k : Nat) (T : Tk) : Prop := T.pos = k ∧ 1 ≤ T.text.size ∧ k + T.text.size ≤ s.size ∧ s.extract k (k + T.text.size) = T.text ∧ T.kind ≠ 5
theorem stands_cut {s : ByteArray} {k e : Nat} {kd : Int} {n : Nat} (h1 : k + 1 ≤ e) (h2 : e ≤ s.size) (hk : kd ≠ 5) : Stands s k ⟨kd, k, s.extract k e, n⟩ := by
  have hz := extract_size' (s := s) (k := k) (e := e) (by omega) h2
  refine ⟨rfl, ?_, ?_, ?_, hk⟩
  · show 1 ≤ (s.extract k e).size; omega
  · show k + (s.extract k e).size ≤ s.size; omega
  · show s.extract k (k + (s.extract k e).size) = s.extract k e
    rw [hz, show k + (e - k) = e from by omega]

theorem bytes_ext {a b : ByteArray} (h : a.data.toList = b.data.toList) : a = b := by
  cases a; cases b
  simp only [ByteArray.mk.injEq] at *
  exact Array.toList_inj.1 h
theorem pre_cut {s t : ByteArray} {k : Nat} (hk : k ≤ s.size) (h : pre t (s.extract k s.size) = true) : k + t.size ≤ s.size ∧ s.extract k (k + t.size) = t := by
  unfold pre at h
  split at h
  · rename_i hz
    rw [extract_size' hk (Nat.le_refl _)] at hz
    have h2 := beq_iff_eq.1 h
    rw [ByteArray.toList_eq, ByteArray.toList_eq] at h2
    refine ⟨by omega, bytes_ext ?_⟩
    rw [← h2]
    simp
    have e : s.data.toList.length = s.size := rfl
    omega
  · cases h

theorem firstOf_mem {s : ByteArray} {k : Nat} {t : ByteArray} : ∀ {l : List ByteArray}, firstOf s k l = some t → t ∈ l ∧ pre t (s.extract k s.size) = true
  | [], h => by cases h
  | x :: r, h => by
    unfold firstOf at h
    split at h
    · cases h; exact ⟨List.mem_cons_self .., by assumption⟩
    · have := firstOf_mem h
      exact ⟨List.mem_cons_of_mem _ this.1, this.2⟩
theorem sign_some : ∀ t ∈ signL, 1 ≤ t.size := by decide

theorem nextT_ok {s : ByteArray} {k : Nat} (hk : k < s.size) (h : (nextT s k s[k]).2 = 0) : Stands s k (nextT s k s[k]).1 := by
  unfold nextT at h ⊢
  by_cases h1 : bLetter s[k] = true
  · rw [if_pos h1] at h ⊢
    have hb : k + 1 ≤ beh bName s k := beh_first hk (by unfold bName; rw [h1]; rfl)
    have he : beh bName s k ≤ s.size := beh_size (by omega)
    unfold nameT at h ⊢
    split
    · exact stands_cut hb he (by decide)
    · rename_i h2
      rw [if_neg h2] at h
      split
      · rename_i h3
        rw [if_pos h3] at h; cases h
      · exact stands_cut hb he (by decide)
  · rw [if_neg h1] at h ⊢
    by_cases h2 : bDigit s[k] = true
    · rw [if_pos h2] at h ⊢
      have hb : k + 1 ≤ beh bDigit s k := beh_first hk h2
      have he : beh bDigit s k ≤ s.size := beh_size (by omega)
      unfold numT at h ⊢
      split
      · rename_i h3
        rw [if_pos h3] at h; cases h
      · rename_i h3
        rw [if_neg h3] at h
        split
        · rename_i h4
          rw [if_pos h4] at h; cases h
        · exact stands_cut hb he (by decide)
    · rw [if_neg h2] at h ⊢
      unfold signT at h ⊢
      cases hf : firstOf s k signL with
      | none => rw [hf] at h; cases h
      | some t =>
        have hm := firstOf_mem hf
        have hc := pre_cut (by omega) hm.2
        exact ⟨rfl, sign_some t hm.1, hc.1, hc.2, by show (4 : Int) ≠ 5; decide⟩

theorem lexF_any (s : ByteArray) : ∀ f g k acc, s.size + 1 - k ≤ f → s.size + 1 - k ≤ g → k ≤ s.size → lexF s f k acc = lexF s g k acc
  | 0, _, k, _, h, _, hk => by omega
  | _ + 1, 0, k, _, _, h, hk => by omega
  | f + 1, g + 1, k, acc, h, h', hk => by
    unfold lexF
    by_cases hlt : k < s.size
    · rw [dif_pos hlt, dif_pos hlt]
      by_cases he : (nextT s k s[k]).2 = 0
      · rw [if_pos he, if_pos he]
        have hs := nextT_ok hlt he
        have hq := skipN_ge (s := s) (k := k + (nextT s k s[k]).1.text.size) hs.2.2.1
        have := hs.2.1
        exact lexF_any s f g _ _ (by omega) (by omega) hq.2
      · rw [if_neg he, if_neg he]
    · rw [dif_neg hlt, dif_neg hlt]
theorem lexR_go {s : ByteArray} {k : Nat} {acc : List Tk} (hk : k < s.size) {T : Tk} (h : nextT s k s[k] = (T, 0)) : lexR s k acc = lexR s (skipN s (k + T.text.size)) (acc ++ [T]) := by
  have he : (nextT s k s[k]).2 = 0 := by rw [h]
  have hs := nextT_ok hk he
  rw [h] at hs
  have hq := skipN_ge (s := s) (k := k + T.text.size) hs.2.2.1
  have h1 : 1 ≤ T.text.size := hs.2.1
  unfold lexR
  rw [show s.size + 1 - k = (s.size - k) + 1 from by omega]
  conv => lhs; unfold lexF
  rw [dif_pos hk, if_pos he, h]
  show lexF s (s.size - k) (skipN s (k + T.text.size)) (acc ++ [T]) = _
  exact lexF_any s _ _ _ _ (by omega) (by omega) hq.2
theorem lexR_bad {s : ByteArray} {k : Nat} {acc : List Tk} (hk : k < s.size) {T : Tk} {er : Int} (h : nextT s k s[k] = (T, er)) (he : er ≠ 0) : lexR s k acc = .inl (k, er) := by
  unfold lexR
  rw [show s.size + 1 - k = (s.size - k) + 1 from by omega]
  unfold lexF
  rw [dif_pos hk, if_neg (by rw [h]; exact he), h]
theorem lexR_end {s : ByteArray} {k : Nat} {acc : List Tk} (hk : k ≤ s.size) (hk2 : ¬ k < s.size) : lexR s k acc = .inr (acc ++ [⟨5, s.size, ⟨#[]⟩, 0⟩]) := by
  unfold lexR
  rw [show s.size + 1 - k = (s.size - k) + 1 from by omega]
  unfold lexF
  rw [dif_neg hk2]

/-- The cells of tokens in a row. -/
def tokCells : List Tk → List Value
  | [] => []
  | T :: r => [.int .i64 T.kind, .int .i64 T.pos, .string T.text, .int .u64 T.num] ++ tokCells r
theorem tokCells_append (a b : List Tk) : tokCells (a ++ b) = tokCells a ++ tokCells b := by
  induction a with
  | nil => rfl
  | cons T r ih => show _ ++ tokCells (r ++ b) = _ ++ tokCells r ++ tokCells b; rw [ih]; simp
theorem ownsRow_below {w w' : World} {base e size n : Nat} {v : Value} {xs : List Value} (h : w.ownsRow base e size v n xs) (hb : Below w.heap.size w w') : w'.ownsRow base e size v n xs := by
  refine ⟨h.1, ?_⟩
  rcases h.2 with hn | ⟨g, cap, cur, hv, hbg, hg, rest⟩
  · exact .inl hn
  · exact .inr ⟨g, cap, cur, hv, hbg, (hb.block g (Array.getElem?_eq_some_iff.1 hg).1).trans hg, rest⟩
end Go.Proofs.YthhkjjdhecpmlaaDoor
