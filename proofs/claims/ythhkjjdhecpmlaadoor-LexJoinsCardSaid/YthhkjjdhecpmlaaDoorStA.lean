/-
  The lexer's tokens, one behind the other; what lies between two of them.
-/
import Derived.Test.YthhkjjdhecpmlaaDoorRfB
namespace Go.Proofs.YthhkjjdhecpmlaaDoor

/-- Tokens one behind the other, the end among them. -/
def Chain (s : ByteArray) : Nat → List Tk → Prop
  | _, [] => False
  | a, T :: r => T.pos = skipN s a ∧ T.pos + T.text.size ≤ s.size ∧ s.extract T.pos (T.pos + T.text.size) = T.text ∧
      ((r = [] ∧ T.pos + T.text.size = s.size ∧ T.kind = 5) ∨ (r ≠ [] ∧ Chain s (T.pos + T.text.size) r))

theorem chain_of (s : ByteArray) : ∀ f k a acc l, s.size + 1 - k ≤ f → k ≤ s.size → k = skipN s a → lexF s f k acc = .inr l → ∃ r, l = acc ++ r ∧ Chain s a r
  | 0, k, a, acc, l, h, hk, _, he => by omega
  | f + 1, k, a, acc, l, h, hk, hka, he => by
    unfold lexF at he
    by_cases hlt : k < s.size
    · rw [dif_pos hlt] at he
      by_cases h0 : (nextT s k s[k]).2 = 0
      · rw [if_pos h0] at he
        have hs := nextT_ok hlt h0
        generalize (nextT s k s[k]).1 = T at *
        have hq := skipN_ge (s := s) (k := k + T.text.size) hs.2.2.1
        have := hs.2.1
        obtain ⟨r, hr, hc⟩ := chain_of s f _ (k + T.text.size) _ l (by omega) hq.2 rfl he
        refine ⟨T :: r, by rw [hr]; simp, hs.1.trans hka, by rw [hs.1]; exact hs.2.2.1, by rw [hs.1]; exact hs.2.2.2.1, Or.inr ⟨?_, by rw [hs.1]; exact hc⟩⟩
        rintro rfl
        exact hc
      · rw [if_neg h0] at he; cases he
    · rw [dif_neg hlt] at he
      cases he
      have hke : k = s.size := by omega
      refine ⟨[⟨5, s.size, ⟨#[]⟩, 0⟩], rfl, by rw [← hka, hke], by show s.size + 0 ≤ _; omega, ?_, Or.inl ⟨rfl, by show s.size + 0 = _; omega, rfl⟩⟩
      show s.extract s.size (s.size + 0) = ⟨#[]⟩
      apply bytes_ext
      simp
theorem lexF_err (s : ByteArray) : ∀ f k acc p, lexF s f k acc = .inl p → p.2 ≠ 0
  | 0, k, acc, p, he => by cases he
  | f + 1, k, acc, p, he => by
    unfold lexF at he
    by_cases hlt : k < s.size
    · rw [dif_pos hlt] at he
      by_cases h0 : (nextT s k s[k]).2 = 0
      · rw [if_pos h0] at he
        exact lexF_err s f _ _ p he
      · rw [if_neg h0] at he; cases he; exact h0
    · rw [dif_neg hlt] at he; cases he

theorem extract_get {s : ByteArray} {a b i : Nat} (hb : b ≤ s.size) (hi : a + i < b) (h : i < (s.extract a b).size) : (s.extract a b)[i] = s[a + i]'(by omega) := by
  show (s.extract a b).data[i] = s.data[a + i]'(by show a + i < s.size; omega)
  simp
theorem beh_gap {p : UInt8 → Bool} {s : ByteArray} {a b : Nat} (hb : b ≤ s.size) : ∀ n k, b - k ≤ n → a ≤ k → k ≤ b → beh p s k ≤ b → beh p (s.extract a b) (k - a) = beh p s k - a
  | n, k, hn, hak, hkb, hm => by
    have hz : (s.extract a b).size = b - a := extract_size' (by omega) hb
    by_cases hk : k < b
    · have hg : (s.extract a b)[k - a]'(by omega) = s[k]'(by omega) := by
        have := extract_get (s := s) (a := a) (b := b) (i := k - a) hb (by omega) (by omega)
        rw [this]
        have e : a + (k - a) = k := by omega
        simp only [e]
      cases hp : p (s[k]'(by omega))
      · rw [beh_stop (by omega) (by rw [hg]; exact hp), beh_stop (by omega) hp]
      · match n, hn with
        | 0, hn => omega
        | n + 1, hn =>
          have e := beh_step (p := p) (s := s) (k := k) (by omega) hp
          rw [e] at hm
          rw [beh_step (by omega) (by rw [hg]; exact hp), e]
          have ih := beh_gap (p := p) (a := a) hb n (k + 1) (by omega) (by omega) (by omega) hm
          rw [show k - a + 1 = k + 1 - a from by omega]
          exact ih
    · have hkb' : k = b := by omega
      subst hkb'
      have h1 : k ≤ beh p s k := beh_le
      rw [beh_end (by omega)]
      omega

theorem skip_gap {s : ByteArray} {a b : Nat} (hb : b ≤ s.size) : ∀ n k, b - k ≤ n → a ≤ k → k ≤ b → skipN s k = b → skipN (s.extract a b) (k - a) = b - a
  | n, k, hn, hak, hkb, hs => by
    have hz : (s.extract a b).size = b - a := extract_size' (by omega) hb
    by_cases hk : k < b
    · match n, hn with
      | 0, hn => omega
      | n + 1, hn =>
        have hks : k < s.size := by omega
        have hg : (s.extract a b)[k - a]'(by omega) = s[k] := by
          have := extract_get (s := s) (a := a) (b := b) (i := k - a) hb (by omega) (by omega)
          rw [this]
          have e : a + (k - a) = k := by omega
          simp only [e]
        cases hbl : bBlank s[k]
        · cases hr : rem s k
          · have := skipN_stop' hks hbl hr
            omega
          · have e1 := skipN_rem' hks hbl hr
            have hm1 := line_far hr
            have hm2 : beh bLine s k ≤ s.size := beh_size (by omega)
            have hm3 := skipN_ge (s := s) (k := beh bLine s k) hm2
            have hmb : beh bLine s k ≤ b := by rw [← e1, hs] at hm3; exact hm3.1
            have h2 : k + 2 ≤ b := by
              have hz2 := rem_size hr
              have h45 : s[k + 1] = 45 := by
                rw [rem_eq, if_pos hz2] at hr
                have h' := beq_iff_eq.1 hr
                rw [ByteArray.toList_eq] at h'
                have h3 := congrArg (fun l => l[1]?) h'
                have e : s.data.toList.length = s.size := rfl
                simp at h3
                exact (Array.getElem?_eq_some_iff.1 h3).2
              have h451 := rem_first hr hks
              have q1 := beh_step (p := bLine) (s := s) (k := k) hks (by rw [h451]; rfl)
              have q2 := beh_step (p := bLine) (s := s) (k := k + 1) (by omega) (by rw [h45]; rfl)
              have q3 : k + 1 + 1 ≤ beh bLine s (k + 1 + 1) := beh_le
              omega
            have hrg : rem (s.extract a b) (k - a) = true := by
              rw [rem_eq, if_pos (by omega)]
              rw [rem_eq, if_pos (by omega)] at hr
              have e : (s.extract a b).extract (k - a) (k - a + 2) = s.extract k (k + 2) := by
                apply bytes_ext
                have e : s.data.toList.length = s.size := rfl
                simp
                rw [show a + (k - a) = k from by omega]
                rw [show min (a + (k - a + 2)) b - k = 2 from by omega]
              rw [e]; exact hr
            have hbg := beh_gap (p := bLine) (a := a) hb _ k (Nat.le_refl _) hak hkb hmb
            have e2 := skipN_rem' (s := s.extract a b) (j := k - a) (by omega) (by rw [hg]; exact hbl) hrg
            rw [e2, hbg]
            exact skip_gap hb n _ (by omega) (by omega) hmb (by rw [← e1]; exact hs)
        · have e1 := skipN_blank hks hbl
          have hm3 := skipN_ge (s := s) (k := k + 1) (by omega)
          have e2 := skipN_blank (s := s.extract a b) (j := k - a) (by omega) (by rw [hg]; exact hbl)
          rw [e2, show k - a + 1 = k + 1 - a from by omega]
          exact skip_gap hb n _ (by omega) (by omega) (by omega) (by rw [← e1]; exact hs)
    · have hkb' : k = b := by omega
      subst hkb'
      have := skipN_end (s := s.extract a k)
      rw [hz] at this
      exact this
/-- What stands ahead of a token holds no token. -/
theorem lex_gap {s : ByteArray} {a : Nat} (ha : a ≤ s.size) : lexR (s.extract a (skipN s a)) (skipN (s.extract a (skipN s a)) 0) [] = .inr [⟨5, (s.extract a (skipN s a)).size, ⟨#[]⟩, 0⟩] := by
  have hq := skipN_ge ha
  have h := skip_gap (a := a) hq.2 _ a (Nat.le_refl _) (Nat.le_refl _) hq.1 rfl
  rw [Nat.sub_self] at h
  have hz : (s.extract a (skipN s a)).size = skipN s a - a := extract_size' hq.1 hq.2
  rw [lexR_end (by omega) (by omega)]; rfl
end Go.Proofs.YthhkjjdhecpmlaaDoor
