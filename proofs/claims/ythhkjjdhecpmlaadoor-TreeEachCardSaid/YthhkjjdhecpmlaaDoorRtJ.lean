/-
  The contract of the reference's Text, for any expression of at most six levels that is one by the page: the induction.
-/
import Derived.Test.YthhkjjdhecpmlaaDoorRtI
import Derived.Test.YthhkjjdhecpmlaaDoorRtB
namespace Go.Proofs.YthhkjjdhecpmlaaDoor
open Go.RowKit
set_option linter.unusedVariables false
set_option linter.unusedSimpArgs false

def names9 : List ByteArray := [⟨#[120]⟩, ⟨#[121]⟩, ⟨#[122]⟩, ⟨#[98]⟩, ⟨#[99]⟩, ⟨#[117]⟩, ⟨#[102]⟩, ⟨#[103]⟩, ⟨#[104]⟩]
def signs14 : List ByteArray := [⟨#[43]⟩, ⟨#[45]⟩, ⟨#[42]⟩, ⟨#[47]⟩, ⟨#[109, 111, 100]⟩, ⟨#[60]⟩, ⟨#[60, 61]⟩, ⟨#[62]⟩, ⟨#[62, 61]⟩, ⟨#[61]⟩, ⟨#[60, 62]⟩, ⟨#[97, 110, 100]⟩, ⟨#[111, 114]⟩, ⟨#[120, 111, 114]⟩]
/-- What a kind has, all else being zero. -/
def Own1 (k a n : Int) (nm : ByteArray) (off : Bool) : Prop :=
  (-9223372036854775808 ≤ n ∧ n ≤ 9223372036854775807) ∧ (0 ≤ a ∧ a ≤ 4095) ∧ (k = 2 → n = 0 ∨ n = 1) ∧ (k ≠ 1 → k ≠ 2 → n = 0) ∧
    (k = 3 ∨ k = 11 ∨ k = 12 ∨ k = 13 ∨ k = 14 → nm ∈ names9) ∧ (k = 6 → nm ∈ signs14) ∧ (k ≠ 3 → k ≠ 6 → k < 11 → nm = ⟨#[]⟩) ∧ (k ≠ 11 → off = false)
/-- An expression by the page, of at most so many levels. -/
def Good : Nat → Ex → Prop
  | 0, _ => False
  | d + 1, .mk k a n nm off kids => Own1 k a n nm off ∧ need k kids.length ∧ (∀ i (h : i < kids.length), k = 14 ∨ k = 9 ∧ i = 0 → kindE kids[i] = 1 ∨ kindE kids[i] = 2) ∧ ∀ i (h : i < kids.length), Good d kids[i]
theorem names9_size {nm : ByteArray} (h : nm ∈ names9) : nm.size = 1 := by
  unfold names9 at h
  simp only [List.mem_cons, List.not_mem_nil, or_false] at h
  rcases h with rfl | rfl | rfl | rfl | rfl | rfl | rfl | rfl | rfl <;> rfl
theorem signs14_size {nm : ByteArray} (h : nm ∈ signs14) : nm.size ≤ 3 := by
  unfold signs14 at h
  simp only [List.mem_cons, List.not_mem_nil, or_false] at h
  rcases h with rfl | rfl | rfl | rfl | rfl | rfl | rfl | rfl | rfl | rfl | rfl | rfl | rfl | rfl <;> decide
theorem own1_size {k a n : Int} {nm : ByteArray} {off : Bool} {m : Nat} (h : Own1 k a n nm off) (hk : need k m) : nm.size ≤ 20 := by
  obtain ⟨_, _, _, _, h1, h2, h3, _⟩ := h
  unfold need at hk
  by_cases c1 : k = 3 ∨ k = 11 ∨ k = 12 ∨ k = 13 ∨ k = 14
  · rw [names9_size (h1 c1)]; decide
  by_cases c2 : k = 6
  · exact Nat.le_trans (signs14_size (h2 c2)) (by decide)
  rw [h3 (by omega) c2 (by omega)]
  decide
theorem Good.fit : ∀ {d : Nat} {e : Ex}, Good d e → Fit d e
  | 0, _, h => h
  | d + 1, .mk k a n nm off kids, h => ⟨h.1.1, own1_size h.1 h.2.1, h.2.1, fun i hi => (h.2.2.2 i hi).fit⟩
theorem ib_pos (n : Int) : 0 < (ib n).size := by
  unfold ib
  show 0 < (Lib.itoa n).toArray.size
  rw [List.size_toArray]
  unfold Lib.itoa
  by_cases h : n < 0
  · rw [if_pos h]; simp
  · rw [if_neg h]
    rw [Lib.decDigits]
    split <;> simp
theorem app_pos {a b : ByteArray} (h : 0 < b.size) : 0 < (a ++ b).size := by rw [ByteArray.size_append]; omega
theorem app_pos1 {a b : ByteArray} (h : 0 < a.size) : 0 < (a ++ b).size := by rw [ByteArray.size_append]; omega
theorem txt_pos : ∀ {d : Nat} {e : Ex}, Good d e → 0 < (txtN d e).size
  | 0, _, h => h.elim
  | d + 1, .mk k a n nm off kids, h => by
    obtain ⟨ho, hk, _, _⟩ := h
    obtain ⟨_, _, _, _, h1, _, _, _⟩ := ho
    show 0 < (shapeT (txtN d) k n nm off kids).size
    unfold shapeT
    by_cases g1 : k = 1
    · rw [if_pos g1]; exact ib_pos n
    rw [if_neg g1]
    by_cases g2 : k = 2
    · rw [if_pos g2]; by_cases hz : n = 0
      · rw [if_pos hz]; decide
      · rw [if_neg hz]; decide
    rw [if_neg g2]
    by_cases g3 : k = 3
    · rw [if_pos g3, names9_size (h1 (Or.inl g3))]; decide
    rw [if_neg g3]
    by_cases g4 : k = 4
    · rw [if_pos g4]; unfold negT; split
      · exact app_pos (by decide)
      · exact app_pos1 (by decide)
    rw [if_neg g4]
    by_cases g5 : k = 5
    · rw [if_pos g5]; exact app_pos1 (by decide)
    rw [if_neg g5]
    by_cases g6 : k = 6
    · rw [if_pos g6]; exact app_pos1 (app_pos (by decide))
    rw [if_neg g6]
    by_cases g7 : k = 7
    · rw [if_pos g7]; exact app_pos1 (app_pos (by decide))
    rw [if_neg g7]
    by_cases g8 : k = 8
    · rw [if_pos g8]; exact app_pos1 (app_pos (by decide))
    rw [if_neg g8]
    by_cases g9 : k = 9
    · rw [if_pos g9]; exact app_pos1 (app_pos (by decide))
    rw [if_neg g9]
    by_cases g10 : k = 10
    · rw [if_pos g10]; exact app_pos1 (by decide)
    rw [if_neg g10]
    by_cases g11 : k = 11
    · rw [if_pos g11]; split
      · exact app_pos (app_pos1 (by decide))
      · exact app_pos (app_pos1 (by decide))
    rw [if_neg g11]
    by_cases g12 : k = 12
    · rw [if_pos g12]; exact app_pos (by decide)
    rw [if_neg g12]
    by_cases g13 : k = 13
    · rw [if_pos g13]; exact app_pos (by decide)
    rw [if_neg g13]
    split
    · exact app_pos1 (by decide)
    · exact app_pos (app_pos (by decide))
/-- What is known of a kid. -/
theorem rkid_pack {d : Nat} {w : World} {B b o : Nat} {kids : List Ex} {i : Nat} (hi : i < kids.length) (hB : B ≤ w.heap.size)
    (hd : ∀ e v, Good d e → Rep w B d e v → RTextAt w B v (txtN d e) ∧ (txtN d e).size ≤ 100000)
    (hf : Good d kids[i])
    (hk : ∃ c0 c1 c2 c3 c4 c5, Six w b (o + i * 6) c0 c1 c2 c3 c4 c5 ∧ Rep w B d kids[i] (.agg #[c0, c1, c2, c3, c4, c5])) :
    ∃ k a n nm off sp sl sc, Six w b (o + i * 6) (.int .i64 k) (.int .i64 a) (.int .i64 n) (.string nm) (.bool off) (.slice sp sl sc) ∧
      (∀ l, RKidAt w (exVal k a n nm off (.slice sp sl sc)) l (kidT (txtN d) kids i l)) ∧ RTextW w (exVal k a n nm off (.slice sp sl sc)) (txtN d kids[i]) ∧ kindE kids[i] = k ∧ bndE kids[i] = bnd k n nm := by
  obtain ⟨c0, c1, c2, c3, c4, c5, h6, hr⟩ := hk
  have hkd := hf.fit.kind
  obtain ⟨hT, hsz⟩ := hd _ _ hf hr
  have e1 : ∀ l, kidT (txtN d) kids i l = wrapT (bndE kids[i]) l (txtN d kids[i]) := fun l => by unfold kidT; rw [List.getElem?_eq_getElem hi]
  generalize kids[i] = E at *
  obtain ⟨k, a, n, nm, off, ks⟩ := E
  cases d with
  | zero => exact hr.elim
  | succ d =>
    obtain ⟨s, hv, hs⟩ := hr
    injection hv with hv
    obtain ⟨rfl, rfl, rfl, rfl, rfl, rfl⟩ : c0 = .int .i64 k ∧ c1 = .int .i64 a ∧ c2 = .int .i64 n ∧ c3 = .string nm ∧ c4 = .bool off ∧ c5 = s := by simpa using hv
    have hs2 : ∃ sp sl sc, c5 = .slice sp sl sc := by
      rcases hs with ⟨_, rfl⟩ | ⟨b2, o2, cap2, rfl, _⟩
      · exact ⟨none, 0, 0, rfl⟩
      · exact ⟨_, _, _, rfl⟩
    obtain ⟨sp, sl, sc, rfl⟩ := hs2
    refine ⟨k, a, n, nm, off, sp, sl, sc, h6, fun l => ?_, fun w1 h1 => hT w1 (h1.mono hB), rfl, rfl⟩
    rw [e1]
    exact rkid_of k a n nm off _ l _ B w (by omega) hkd hB hT
end Go.Proofs.YthhkjjdhecpmlaaDoor
