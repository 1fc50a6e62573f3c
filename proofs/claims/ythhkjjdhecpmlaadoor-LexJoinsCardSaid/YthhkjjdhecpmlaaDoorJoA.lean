/-
  Words with blanks between: what the lexer says of each.
-/
import Derived.Test.YthhkjjdhecpmlaaDoorRfB
namespace Go.Proofs.YthhkjjdhecpmlaaDoor

/-- From k on the text reads so. -/
def At (s : ByteArray) (k : Nat) (l : List UInt8) : Prop := k ≤ s.size ∧ s.data.toList.drop k = l
theorem At.get {s : ByteArray} {k : Nat} {c : UInt8} {r : List UInt8} (h : At s k (c :: r)) : ∃ hk : k < s.size, s[k] = c := by
  have e : s.data.toList.length = s.size := rfl
  have hk : k < s.size := by
    have h2 := congrArg List.length h.2
    simp at h2
    have := h.1
    omega
  refine ⟨hk, ?_⟩
  have h2 := h.2
  rw [List.drop_eq_getElem_cons (by omega)] at h2
  exact (List.cons.inj h2).1
theorem At.next {s : ByteArray} {k : Nat} {c : UInt8} {r : List UInt8} (h : At s k (c :: r)) : At s (k + 1) r := by
  obtain ⟨hk, _⟩ := h.get
  have h2 := h.2
  have e : s.data.toList.length = s.size := rfl
  rw [List.drop_eq_getElem_cons (by omega)] at h2
  exact ⟨hk, (List.cons.inj h2).2⟩
theorem At.app {s : ByteArray} : ∀ {a : List UInt8} {k : Nat} {r : List UInt8}, At s k (a ++ r) → At s (k + a.length) r
  | [], _, _, h => h
  | c :: a, k, r, h => by
    have := At.app (a := a) (k := k + 1) (r := r) h.next
    rw [List.length_cons, show k + (a.length + 1) = k + 1 + a.length from by omega]
    exact this
theorem At.done {s : ByteArray} {k : Nat} (h : At s k []) : k = s.size := by
  have h2 := congrArg List.length h.2
  have e : s.data.toList.length = s.size := rfl
  simp at h2
  have := h.1
  omega
theorem At.beh {s : ByteArray} {k : Nat} {l : List UInt8} {p : UInt8 → Bool} (h : At s k l) : beh p s k = k + (l.takeWhile p).length := by
  unfold YthhkjjdhecpmlaaDoor.beh; rw [h.2]
theorem At.cut {s : ByteArray} {k : Nat} {a r : List UInt8} (h : At s k (a ++ r)) : s.extract k (k + a.length) = ⟨a.toArray⟩ := by
  apply bytes_ext
  have h2 := h.app
  have e : s.data.toList.length = s.size := rfl
  simp
  rw [h.2, List.take_left']
  have := h2.1
  omega
theorem At.rem {s : ByteArray} {k : Nat} {l : List UInt8} (h : At s k l) : rem s k = (l.take 2 == [45, 45]) := by
  have e : s.data.toList.length = s.size := rfl
  have hl : l.length = s.size - k := by rw [← h.2]; simp
  rw [rem_eq]
  by_cases h2 : k + 2 ≤ s.size
  · rw [if_pos h2, ByteArray.toList_eq]
    congr 1
    simp
    rw [h.2]
  · rw [if_neg h2]
    have hk := h.1
    match l, hl with
    | [], _ => rfl
    | [x], _ => simp
    | x :: y :: r, hl => simp at hl; omega
theorem At.pre {s : ByteArray} {k : Nat} {l : List UInt8} (t : ByteArray) (h : At s k l) : pre t (s.extract k s.size) = (l.take t.size == t.data.toList) := by
  have e : s.data.toList.length = s.size := rfl
  have hl : l.length = s.size - k := by rw [← h.2]; simp
  unfold YthhkjjdhecpmlaaDoor.pre
  rw [extract_size' h.1 (Nat.le_refl _)]
  by_cases h2 : t.size ≤ s.size - k
  · rw [if_pos h2, ByteArray.toList_eq, ByteArray.toList_eq]
    congr 1
    simp
    rw [h.2]
    have := h.1
    congr 1
    omega
  · rw [if_neg h2]
    symm
    rw [beq_eq_false_iff_ne]
    intro h3
    have h4 := congrArg List.length h3
    have e2 : t.data.toList.length = t.size := rfl
    rw [e2] at h4
    simp at h4
    omega

/-- A text that begins with no blank and no remark, or is none. -/
def Fresh : List UInt8 → Prop
  | [] => True
  | c :: r => bBlank c = false ∧ ((c :: r).take 2 == [45, 45]) = false
theorem skip_fresh {s : ByteArray} {k : Nat} {l : List UInt8} (h : At s k l) (hf : Fresh l) : skipN s k = k := by
  match l, h, hf with
  | [], h, _ => rw [h.done]; exact skipN_end
  | c :: r, h, hf =>
    obtain ⟨hk, hc⟩ := h.get
    exact skipN_stop' hk (by rw [hc]; exact hf.1) (by rw [h.rem]; exact hf.2)
theorem skip_blank {s : ByteArray} {k : Nat} {c : UInt8} {r : List UInt8} (h : At s k (c :: r)) (hb : bBlank c = true) : skipN s k = skipN s (k + 1) := by
  obtain ⟨hk, hc⟩ := h.get
  exact skipN_blank hk (by rw [hc]; exact hb)

def sepS : List (List UInt8) := [[32], [10], [9, 32], [32, 45, 45, 32, 120, 32, 60, 62, 32, 55, 10]]
theorem skip_sep {s : ByteArray} {k : Nat} {sep l : List UInt8} (hs : sep ∈ sepS) (h : At s k (sep ++ l)) (hf : Fresh l) : skipN s k = k + sep.length := by
  have ha := h.app
  simp only [sepS, List.mem_cons, List.not_mem_nil, or_false] at hs
  rcases hs with rfl | rfl | rfl | rfl
  · rw [skip_blank (c := 32) (r := l) h rfl]; exact skip_fresh ha hf
  · rw [skip_blank (c := 10) (r := l) h rfl]; exact skip_fresh ha hf
  · rw [skip_blank (c := 9) (r := 32 :: l) h rfl, skip_blank (c := 32) (r := l) h.next rfl]; exact skip_fresh ha hf
  · rw [skip_blank (c := 32) (r := [45, 45, 32, 120, 32, 60, 62, 32, 55, 10] ++ l) h rfl]
    have h1 : At s (k + 1) (45 :: ([45, 32, 120, 32, 60, 62, 32, 55, 10] ++ l)) := h.next
    obtain ⟨hk, hc⟩ := h1.get
    have hb : beh bLine s (k + 1) = k + 1 + 9 := by rw [h1.beh]; rfl
    rw [skipN_rem' hk (by rw [hc]; rfl) (by rw [h1.rem]; rfl), hb]
    have h2 : At s (k + 1 + 9) (10 :: l) := At.app (a := [45, 45, 32, 120, 32, 60, 62, 32, 55]) (r := 10 :: l) h1
    rw [skip_blank h2 rfl]
    exact skip_fresh ha hf

/-- The words of the law. -/
def wordLL : List (List UInt8) := wordL.map (·.data.toList)
def signLL : List (List UInt8) := signL.map (·.data.toList)
def numLL : List (List UInt8) := [[48], [49, 55], [57, 50, 50, 51, 51, 55, 50, 48, 51, 54, 56, 53, 52, 55, 55, 53, 56, 48, 56]]
def nameLL : List (List UInt8) := wordLL ++ [[120], [65, 98, 95, 57]]
theorem takeWhile_stop {p : UInt8 → Bool} {w r : List UInt8} {c : UInt8} (hw : ∀ x ∈ w, p x = true) (hc : p c = false) : (w ++ c :: r).takeWhile p = w := by
  rw [List.takeWhile_append_of_pos hw, List.takeWhile_cons, if_neg (by rw [hc]; exact Bool.false_ne_true), List.append_nil]
theorem blank_not {c : UInt8} (h : bBlank c = true) : bLetter c = false ∧ bDigit c = false := by
  rw [bBlank_iff] at h
  constructor
  · cases hl : bLetter c
    · rfl
    · rw [bLetter_iff] at hl; omega
  · cases hl : bDigit c
    · rfl
    · rw [bDigit_iff] at hl; omega
theorem name_facts : ∀ w ∈ nameLL, (∃ x y, w = x :: y ∧ bLetter x = true) ∧ (∀ x ∈ w, bName x = true) ∧ w.length ≤ 30 := by
  have : ∀ w ∈ nameLL, (w.head?.any bLetter) = true ∧ (w.all bName) = true ∧ w.length ≤ 30 := by decide
  intro w hw
  obtain ⟨h1, h2, h3⟩ := this w hw
  refine ⟨?_, fun x hx => List.all_eq_true.1 h2 x hx, h3⟩
  match w, h1 with
  | x :: y, h1 => exact ⟨x, y, rfl, by simpa using h1⟩
theorem num_facts : ∀ w ∈ numLL, (∃ x y, w = x :: y ∧ bDigit x = true) ∧ (∀ x ∈ w, bDigit x = true) ∧ ¬ (1 < w.length ∧ w.head? = some 48) ∧ ¬ 9223372036854775808 < numV 0 w := by
  have : ∀ w ∈ numLL, (w.head?.any bDigit) = true ∧ (w.all bDigit) = true ∧ ¬ (1 < w.length ∧ w.head? = some 48) ∧ ¬ 9223372036854775808 < numV 0 w := by decide +kernel
  intro w hw
  obtain ⟨h1, h2, h3⟩ := this w hw
  refine ⟨?_, fun x hx => List.all_eq_true.1 h2 x hx, h3⟩
  match w, h1 with
  | x :: y, h1 => exact ⟨x, y, rfl, by simpa using h1⟩
theorem next_name {s : ByteArray} {k : Nat} {w r : List UInt8} {c : UInt8} (hw : w ∈ nameLL) (hc : bBlank c = true) (h : At s k (w ++ c :: r)) : ∃ (hk : k < s.size) (T : Tk), nextT s k s[k] = (T, 0) ∧ T.text = ⟨w.toArray⟩ := by
  obtain ⟨⟨x, y, hxy, hx⟩, hall, hlen⟩ := name_facts w hw
  have h' : At s k (x :: (y ++ c :: r)) := by rw [hxy] at h; exact h
  obtain ⟨hk, hg⟩ := h'.get
  have hbn : bName c = false := by unfold bName; rw [(blank_not hc).1, (blank_not hc).2]; rfl
  have hb : beh bName s k = k + w.length := by rw [h.beh, takeWhile_stop hall hbn]
  have hz : (ByteArray.mk w.toArray).size = w.length := by show w.toArray.size = _; simp
  refine ⟨hk, ?_⟩
  unfold nextT
  rw [if_pos (by rw [hg]; exact hx), hb, h.cut]
  unfold nameT
  split
  · exact ⟨_, rfl, rfl⟩
  · rw [if_neg (by rw [hz]; omega)]
    exact ⟨_, rfl, rfl⟩
theorem next_num {s : ByteArray} {k : Nat} {w r : List UInt8} {c : UInt8} (hw : w ∈ numLL) (hc : bBlank c = true) (h : At s k (w ++ c :: r)) : ∃ (hk : k < s.size) (T : Tk), nextT s k s[k] = (T, 0) ∧ T.text = ⟨w.toArray⟩ := by
  obtain ⟨⟨x, y, hxy, hx⟩, hall, hn1, hn2⟩ := num_facts w hw
  have h' : At s k (x :: (y ++ c :: r)) := by rw [hxy] at h; exact h
  obtain ⟨hk, hg⟩ := h'.get
  have hb : beh bDigit s k = k + w.length := by rw [h.beh, takeWhile_stop hall (blank_not hc).2]
  have hz : (ByteArray.mk w.toArray).size = w.length := by show w.toArray.size = _; simp
  have hl : bLetter x = false := by
    cases hl : bLetter x
    · rfl
    · rw [bLetter_iff] at hl; rw [bDigit_iff] at hx; omega
  refine ⟨hk, ?_⟩
  unfold nextT
  rw [if_neg (by rw [hg, hl]; exact Bool.false_ne_true), if_pos (by rw [hg]; exact hx), hb, h.cut]
  unfold numT
  rw [hz, if_neg (by simpa using hn1), if_neg (by simpa using hn2)]
  exact ⟨_, rfl, rfl⟩
/-- The first sign, of a list. -/
def firstL (l : List UInt8) : List ByteArray → Option ByteArray
  | [] => none
  | t :: r => if (l.take t.size == t.data.toList) = true then some t else firstL l r
theorem firstOf_at {s : ByteArray} {k : Nat} {l : List UInt8} (h : At s k l) : ∀ ts, firstOf s k ts = firstL l ts
  | [] => rfl
  | t :: r => by
    unfold firstOf firstL
    rw [h.pre, firstOf_at h r]
theorem sign_first (r : List UInt8) : ∀ w ∈ signL, ∀ c, (c = 32 ∨ c = 9 ∨ c = 10) → firstL (w.data.toList ++ c :: r) signL = some w := by
  intro w hw c hc
  simp only [signL, List.mem_cons, List.not_mem_nil, or_false] at hw
  rcases hw with rfl | rfl | rfl | rfl | rfl | rfl | rfl | rfl | rfl | rfl | rfl | rfl | rfl | rfl | rfl | rfl <;> rcases hc with rfl | rfl | rfl <;> rfl
theorem sign_facts : ∀ w ∈ signL, ∃ x y, w.data.toList = x :: y ∧ bLetter x = false ∧ bDigit x = false := by
  have : ∀ w ∈ signL, (w.data.toList.head?.any fun x => !bLetter x && !bDigit x) = true := by decide
  intro w hw
  have h1 := this w hw
  match hh : w.data.toList, h1 with
  | x :: y, h1 => exact ⟨x, y, rfl, by simpa using h1⟩
theorem next_sign {s : ByteArray} {k : Nat} {w : ByteArray} {r : List UInt8} {c : UInt8} (hw : w ∈ signL) (hc : bBlank c = true) (h : At s k (w.data.toList ++ c :: r)) : ∃ (hk : k < s.size) (T : Tk), nextT s k s[k] = (T, 0) ∧ T.text = w := by
  obtain ⟨x, y, hxy, hx, hd⟩ := sign_facts w hw
  have h' : At s k (x :: (y ++ c :: r)) := by rw [hxy] at h; exact h
  obtain ⟨hk, hg⟩ := h'.get
  have hc' : c = 32 ∨ c = 9 ∨ c = 10 := by
    rw [bBlank_iff] at hc
    rcases hc with hc | hc | hc
    · exact Or.inl (UInt8.toNat_inj.1 hc)
    · exact Or.inr (Or.inl (UInt8.toNat_inj.1 hc))
    · exact Or.inr (Or.inr (UInt8.toNat_inj.1 hc))
  refine ⟨hk, ?_⟩
  unfold nextT
  rw [if_neg (by rw [hg, hx]; exact Bool.false_ne_true), if_neg (by rw [hg, hd]; exact Bool.false_ne_true)]
  unfold signT
  rw [firstOf_at h, sign_first r w hw c hc']
  exact ⟨_, rfl, rfl⟩

/-- All the law's words. -/
def allL : List ByteArray := wordL ++ signL ++ [⟨#[120]⟩, ⟨#[65, 98, 95, 57]⟩, ⟨#[48]⟩, ⟨#[49, 55]⟩, ⟨#[57, 50, 50, 51, 51, 55, 50, 48, 51, 54, 56, 53, 52, 55, 55, 53, 56, 48, 56]⟩]
def sepL : List ByteArray := [⟨#[32]⟩, ⟨#[10]⟩, ⟨#[9, 32]⟩, ⟨#[32, 45, 45, 32, 120, 32, 60, 62, 32, 55, 10]⟩]
theorem next_all {s : ByteArray} {k : Nat} {w : ByteArray} {r : List UInt8} {c : UInt8} (hw : w ∈ allL) (hc : bBlank c = true) (h : At s k (w.data.toList ++ c :: r)) : ∃ (hk : k < s.size) (T : Tk), nextT s k s[k] = (T, 0) ∧ T.text = w := by
  have he : (⟨w.data.toList.toArray⟩ : ByteArray) = w := by cases w; simp
  unfold allL at hw
  rcases List.mem_append.1 hw with hw | hw
  · rcases List.mem_append.1 hw with hw | hw
    · have := next_name (w := w.data.toList) (by unfold nameLL wordLL; exact List.mem_append.2 (Or.inl (List.mem_map_of_mem hw))) hc h
      rw [he] at this; exact this
    · exact next_sign hw hc h
  · simp only [List.mem_cons, List.not_mem_nil, or_false] at hw
    rcases hw with rfl | rfl | rfl | rfl | rfl
    · exact next_name (w := [120]) (by decide) hc h
    · exact next_name (w := [65, 98, 95, 57]) (by decide) hc h
    · exact next_num (w := [48]) (by decide) hc h
    · exact next_num (w := [49, 55]) (by decide) hc h
    · exact next_num (w := [57, 50, 50, 51, 51, 55, 50, 48, 51, 54, 56, 53, 52, 55, 55, 53, 56, 48, 56]) (by decide) hc h
/-- Words, each with what stands behind it. -/
def joinL : List (ByteArray × ByteArray) → List UInt8
  | [] => []
  | (w, p) :: r => w.data.toList ++ (p.data.toList ++ joinL r)
def Fine (ps : List (ByteArray × ByteArray)) : Prop := ∀ q ∈ ps, q.1 ∈ allL ∧ q.2 ∈ sepL
theorem all_facts : ∀ w ∈ allL, ∀ p ∈ sepL, (match w.data.toList ++ p.data.toList with | c :: d :: _ => !bBlank c && !(c == 45 && d == 45) | _ => false) = true := by decide +kernel
theorem fresh_of {w p : ByteArray} {r : List UInt8} (hw : w ∈ allL) (hp : p ∈ sepL) : Fresh (w.data.toList ++ (p.data.toList ++ r)) := by
  have h := all_facts w hw p hp
  rw [← List.append_assoc]
  match hl : w.data.toList ++ p.data.toList, h with
  | c :: d :: y, h =>
    simp at h
    refine ⟨by simpa using h.1, ?_⟩
    simp
    intro h1 h2
    rcases h.2 with h | h
    · exact h h1
    · exact h h2
theorem fresh_join {ps : List (ByteArray × ByteArray)} (h : Fine ps) : Fresh (joinL ps) := by
  match ps, h with
  | [], _ => trivial
  | (w, p) :: r, h => exact fresh_of (h _ (List.mem_cons_self ..)).1 (h _ (List.mem_cons_self ..)).2
theorem sep_facts : ∀ p ∈ sepL, p.data.toList ∈ sepS ∧ (p.data.toList.head?.any bBlank) = true := by decide
theorem lex_join (s : ByteArray) : ∀ (ps : List (ByteArray × ByteArray)) (k : Nat) (acc : List Tk), Fine ps → At s k (joinL ps) → ∃ ts : List Tk, lexR s k acc = .inr (acc ++ ts ++ [⟨5, s.size, ⟨#[]⟩, 0⟩]) ∧ ts.map (·.text) = ps.map (·.1)
  | [], k, acc, _, h => by
    refine ⟨[], ?_, rfl⟩
    rw [lexR_end h.1 (by rw [h.done]; omega), List.append_nil]
  | (w, p) :: r, k, acc, hf, h => by
    have hwp := hf _ (List.mem_cons_self ..)
    obtain ⟨hp1, hp2⟩ := sep_facts p hwp.2
    have hr : Fine r := fun q hq => hf q (List.mem_cons_of_mem _ hq)
    have h' : At s k (w.data.toList ++ (p.data.toList ++ joinL r)) := h
    have hnx : ∃ (hk : k < s.size) (T : Tk), nextT s k s[k] = (T, 0) ∧ T.text = w := by
      match hl : p.data.toList, hp2 with
      | c :: y, hp2 =>
        rw [hl] at h'
        exact next_all (r := y ++ joinL r) (c := c) hwp.1 (by simpa using hp2) h'
    obtain ⟨hk, T, hT, htx⟩ := hnx
    rw [lexR_go hk hT]
    have hz : T.text.size = w.data.toList.length := by rw [htx]; rfl
    have h2 := h'.app
    have h3 := skip_sep hp1 h2 (fresh_join hr)
    rw [hz, h3]
    obtain ⟨ts, hts, hmap⟩ := lex_join s r _ (acc ++ [T]) hr h2.app
    refine ⟨T :: ts, by rw [hts]; simp, by rw [List.map_cons, List.map_cons, hmap, htx]⟩
/-- The text of words. -/
def joinB (ps : List (ByteArray × ByteArray)) : ByteArray := ⟨(joinL ps).toArray⟩
theorem lex_joinB (ps : List (ByteArray × ByteArray)) (hf : Fine ps) : ∃ ts : List Tk, lexR (joinB ps) (skipN (joinB ps) 0) [] = .inr (ts ++ [⟨5, (joinB ps).size, ⟨#[]⟩, 0⟩]) ∧ ts.map (·.text) = ps.map (·.1) := by
  have h : At (joinB ps) 0 (joinL ps) := ⟨Nat.zero_le _, by simp [joinB]⟩
  rw [skip_fresh h (fresh_join hf)]
  obtain ⟨ts, h1, h2⟩ := lex_join (joinB ps) ps 0 [] hf h
  exact ⟨ts, by rw [h1]; simp, h2⟩
theorem joinL_append (a b : List (ByteArray × ByteArray)) : joinL (a ++ b) = joinL a ++ joinL b := by
  induction a with
  | nil => rfl
  | cons q r ih => obtain ⟨w, p⟩ := q; show w.data.toList ++ (p.data.toList ++ joinL (r ++ b)) = _ ++ (_ ++ joinL r) ++ joinL b; rw [ih]; simp
theorem joinB_step (ps : List (ByteArray × ByteArray)) (w p : ByteArray) : joinB (ps ++ [(w, p)]) = joinB ps ++ (w ++ p) := by
  apply bytes_ext
  simp [joinB, joinL_append, joinL]
end Go.Proofs.YthhkjjdhecpmlaaDoor
