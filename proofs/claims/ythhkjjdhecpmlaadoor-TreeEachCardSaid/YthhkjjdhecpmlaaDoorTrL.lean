/-
  The contract of Text, for any expression of at most six levels that is shaped as the page says: the induction.
-/
import Derived.Test.YthhkjjdhecpmlaaDoorTrK
namespace Go.Proofs.YthhkjjdhecpmlaaDoor
open Go.RowKit
set_option linter.unusedVariables false
set_option linter.unusedSimpArgs false

theorem kids_any {d : Nat} {w : World} {p : Option Addr} {cap : Nat} {kids : List Ex} (k a n : Int) (nm : ByteArray) (off : Bool) (h3 : kids.length ≤ 3) (hsz : ∀ i (h : i < kids.length), (txtN d kids[i]).size ≤ 100000)
    (hK : ∀ i (h : i < kids.length), KidAt w (exVal k a n nm off (.slice p kids.length cap)) i 0 (txtN d kids[i])) :
    KidsAt w (exVal k a n nm off (.slice p kids.length cap)) (joinT (kids.map (txtN d))) := fun w2 h2 =>
  kidTexts_of k a n nm off p kids.length cap (kids.map (txtN d)) w2 (by simp) (by omega)
    (fun t ht => by
      obtain ⟨e, he, rfl⟩ := List.mem_map.1 ht
      obtain ⟨i, hi, rfl⟩ := List.getElem_of_mem he
      have := hsz i hi
      omega)
    (fun i hi => by
      have hi' : i < kids.length := by simpa using hi
      rw [List.getElem_map]
      exact fun w3 h3 => hK i hi' w3 (h2.trans (h3.mono h2.size)))
theorem kidT_zero {f : Ex → ByteArray} {kids : List Ex} {i : Nat} (h : i < kids.length) : kidT f kids i 0 = f kids[i] := by
  unfold kidT
  rw [List.getElem?_eq_getElem h]
  obtain ⟨k, a, n, nm, off, ks⟩ := kids[i]
  exact wrapT_zero k n nm _
theorem pow3_le {d : Nat} (h : d ≤ 6) : 33 * 3 ^ d ≤ 24057 := by
  have : 3 ^ d ≤ 3 ^ 6 := Nat.pow_le_pow_right (by decide) h
  omega

theorem KidAt.later {w w1 : World} {v : Value} {i l : Int} {t : ByteArray} (h : KidAt w v i l t) (hb : Below w.heap.size w w1) : KidAt w1 v i l t := fun w2 h2 => h w2 (hb.trans (h2.mono hb.size))
theorem KidsAt.later {w w1 : World} {v : Value} {t : ByteArray} (h : KidsAt w v t) (hb : Below w.heap.size w w1) : KidsAt w1 v t := fun w2 h2 => h w2 (hb.trans (h2.mono hb.size))
theorem cell_kind {w : World} {B d b o : Nat} {kids : List Ex} (h0 : 0 < kids.length)
    (hcell : ∀ i (h : i < kids.length), ∃ c0 c1 c2 c3 c4 c5, Six w b (o + i * 6) c0 c1 c2 c3 c4 c5 ∧ Rep w B d kids[i] (.agg #[c0, c1, c2, c3, c4, c5])) :
    w.cell? ⟨b, o, none⟩ = some (.int .i64 (kind0 kids)) := by
  obtain ⟨c0, c1, c2, c3, c4, c5, h6, hr⟩ := hcell 0 h0
  cases kids with
  | nil => cases h0
  | cons e r =>
    obtain ⟨k1, a1, n1, nm1, off1, ks1⟩ := e
    cases d with
    | zero => exact hr.elim
    | succ d =>
      obtain ⟨s, hv, _⟩ := hr
      injection hv with hv
      obtain ⟨rfl, _⟩ : c0 = .int .i64 k1 ∧ c1 = .int .i64 a1 ∧ c2 = .int .i64 n1 ∧ c3 = .string nm1 ∧ c4 = .bool off1 ∧ c5 = s := by simpa using hv
      have := h6.1
      rw [show o + 0 * 6 = o by omega] at this
      exact this
theorem joinT_le3 {f : Ex → ByteArray} {kids : List Ex} {M : Nat} (h : ∀ i (h : i < kids.length), (f kids[i]).size ≤ M) (h3 : kids.length ≤ 3) : (joinT (kids.map f)).size ≤ 3 * M + 6 := by
  have h1 := joinT_size h
  have h2 : kids.length * M ≤ 3 * M := Nat.mul_le_mul_right _ h3
  omega
set_option maxRecDepth 20000 in
theorem text_all : ∀ (d : Nat), d ≤ 6 → ∀ (e : Ex) (v : Value) (w : World) (B : Nat), Fit d e → Rep w B d e v → B ≤ w.heap.size → 0 < B → Pow w → TextAt w B v (txtN d e)
  | 0, _, _, _, _, _, h, _, _, _, _ => h.elim
  | d + 1, hd6, .mk k a n nm off kids, v, w, B, hf, hr, hB, hB0, hp => by
    obtain ⟨hn, hnm, hk, hkf⟩ := hf
    obtain ⟨s, rfl, hs⟩ := hr
    intro w1 h1
    have hp1 := pow_below hp h1 hB0
    have hB1 : B ≤ w1.heap.size := Nat.le_trans hB h1.size
    have hz : ∀ e, Fit d e → (txtN d e).size ≤ 24057 := fun e he => by
      have g1 := txt_size d e he
      have g2 := pow3_le (d := d) (by omega)
      omega
    have hd : ∀ e v, Fit d e → Rep w1 B d e v → TextAt w1 B v (txtN d e) ∧ (txtN d e).size ≤ 100000 := fun e v he hr =>
      ⟨text_all d (by omega) e v w1 B he hr hB1 hB0 hp1, Nat.le_trans (hz e he) (by decide)⟩
    have hks : ∀ i (h : i < kids.length), (txtN d kids[i]).size ≤ 100000 := fun i hi => Nat.le_trans (hz _ (hkf i hi)) (by decide)
    have hJ : (joinT (kids.map (txtN d))).size ≤ 80000 := Nat.le_trans (joinT_le3 (M := 24057) (fun i hi => hz _ (hkf i hi)) (need_le hk)) (by decide)
    have hkz : ∀ i l, (kidT (txtN d) kids i l).size ≤ 100000 := fun i l => Nat.le_trans (kidT_size (M := 24057) (fun i hi => hz _ (hkf i hi)) i l) (by decide)
    have h3 := need_le hk
    show Calls Tryd.prog 24 #[exVal k a n nm off s] w1 fun e w' => e = .returned (.string (shapeT (txtN d) k n nm off kids)) ∧ Below w1.heap.size w1 w'
    rcases hs with ⟨rfl, rfl⟩ | ⟨b, o, cap, rfl, hbB, hl, hcell⟩
    · unfold need at hk
      have hk' : k = 1 ∨ k = 2 ∨ k = 3 ∨ k = 13 ∨ k = 14 := by simp at hk; omega
      rcases hk' with rfl | rfl | rfl | rfl | rfl
      · exact text_int a n nm off _ w1 (fun w2 h2 => formatInt n hn.1 hn.2 w2 (hp1.below h2))
      · exact text_bool a n nm off _ w1
      · exact text_var a n nm off _ w1
      · exact text_call a n nm off _ (joinT []) w1 (by omega) (by decide) (kids_any (d := 0) (kids := []) 13 a n nm off (by decide) (fun i hi => by cases hi) (fun i hi => by cases hi))
      · exact text_await a n nm off _ _ w1 (fun w2 h2 => awaitText_none a n nm off none 0 w2 (by omega))
    · have K : ∀ (i : Nat) (l : Int), i < kids.length → KidAt w1 (exVal k a n nm off (.slice (some ⟨b, o, none⟩) kids.length cap)) i l (kidT (txtN d) kids i l) := fun i l hi =>
        (kid_any k a n nm off i l hd hkf hB1 hbB hl (fun i hi => by
          obtain ⟨c0, c1, c2, c3, c4, c5, h6, hr⟩ := hcell i hi
          exact ⟨c0, c1, c2, c3, c4, c5, h6.below h1 hbB, hr.below h1⟩) hi).1
      have KS : KidsAt w1 (exVal k a n nm off (.slice (some ⟨b, o, none⟩) kids.length cap)) (joinT (kids.map (txtN d))) := kids_any k a n nm off h3 hks (fun i hi => by
        have := K i 0 hi
        rw [kidT_zero hi] at this
        exact this)
      have hnm6 : nm.size ≤ 1000000 := Nat.le_trans hnm (by decide)
      have hk8 : ∀ i l, (kidT (txtN d) kids i l).size ≤ 100000000 := fun i l => Nat.le_trans (hkz i l) (by decide)
      have hk9 : ∀ i l, (kidT (txtN d) kids i l).size ≤ 1000000000 := fun i l => Nat.le_trans (hkz i l) (by decide)
      unfold need at hk
      rcases hk with ⟨rfl | rfl | rfl, hm⟩ | ⟨rfl | rfl | rfl | rfl, hm⟩ | ⟨rfl | rfl | rfl | rfl, hm⟩ | ⟨rfl, hm⟩ | ⟨rfl | rfl, hm⟩
      · exact text_int a n nm off _ w1 (fun w2 h2 => formatInt n hn.1 hn.2 w2 (hp1.below h2))
      · exact text_bool a n nm off _ w1
      · exact text_var a n nm off _ w1
      · exact text_neg a n nm off _ _ w1 (fun w2 h2 => negText_of a n nm off b o kids.length cap (kind0 kids) _ w2 (by omega) (by omega) (hkz 0 8) (Nat.lt_of_lt_of_le hbB (Nat.le_trans hB1 h2.size))
          ((h2.cell (p := ⟨b, o, none⟩) (Nat.lt_of_lt_of_le hbB hB1)).trans ((h1.cell (p := ⟨b, o, none⟩) hbB).trans (cell_kind (by omega) hcell))) ((K 0 8 (by omega)).later h2))
      · exact text_not a n nm off _ _ w1 (hk9 0 4) (K 0 4 (by omega))
      · exact text_pre a n nm off _ _ w1 (hk9 0 8) (K 0 8 (by omega))
      · cases off
        · exact text_when a n nm _ _ w1 hnm6 (hk8 0 9) (K 0 9 (by omega))
        · exact text_whennot a n nm _ _ w1 hnm6 (hk8 0 9) (K 0 9 (by omega))
      · exact text_six a n nm off _ _ w1 (fun w2 h2 => binaryText_of 6 a n nm off _ _ _ w2 (Nat.le_trans hnm (by decide)) (hk8 0 _) (hk8 1 _) ((K 0 _ (by omega)).later h2) ((K 1 _ (by omega)).later h2))
      · exact text_arrow a n nm off _ _ _ w1 hnm6 (hk8 0 2) (hk8 1 1) (K 0 2 (by omega)) (K 1 1 (by omega))
      · exact text_fby a n nm off _ _ _ w1 hnm6 (hk8 0 0) (hk8 1 1) (K 0 0 (by omega)) (K 1 1 (by omega))
      · exact text_merge a n nm off _ _ _ w1 hnm6 (hk8 0 0) (hk8 1 0) (K 0 0 (by omega)) (K 1 0 (by omega))
      · exact text_if a n nm off _ _ _ _ w1 hnm6 (hk8 0 0) (hk8 1 0) (hk8 2 0) (K 0 0 (by omega)) (K 1 0 (by omega)) (K 2 0 (by omega))
      · exact text_call a n nm off _ _ w1 hnm6 (Nat.le_trans hJ (by decide)) KS
      · by_cases hz : kids = []
        · subst hz
          exact text_await a n nm off _ _ w1 (fun w2 h2 => awaitText_none a n nm off _ _ w2 hnm6)
        · have hpos : 0 < kids.length := List.length_pos_iff.2 hz
          have e : shapeT (txtN d) 14 n nm off kids = ⟨#[97, 119, 97, 105, 116, 32]⟩ ++ nm ++ (⟨#[32, 97, 102, 116, 101, 114, 32, 40]⟩ ++ joinT (kids.map (txtN d)) ++ ⟨#[41]⟩) := by
            unfold shapeT
            simp [hz]
          rw [e]
          exact text_await a n nm off _ _ w1 (fun w2 h2 => awaitText_some a n nm off _ kids.length cap _ w2 hnm6 hpos (Nat.le_trans hJ (by decide)) (KS.later h2))
end Go.Proofs.YthhkjjdhecpmlaaDoor
