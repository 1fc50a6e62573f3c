/-
  The contract of the reference's Text, for any expression of at most six levels that is one by the page: the induction.
-/
import Derived.Test.YthhkjjdhecpmlaaDoorRtJ
namespace Go.Proofs.YthhkjjdhecpmlaaDoor
open Go.RowKit
set_option linter.unusedVariables false
set_option linter.unusedSimpArgs false

theorem byte_test (t : ByteArray) (h : 0 < t.size) : (pre ⟨#[45]⟩ t = true) ↔ ((t[0].toNat : Int) == 45) = true := by
  unfold pre
  have h1 : (⟨#[45]⟩ : ByteArray).size ≤ t.size := h
  rw [if_pos h1]
  obtain ⟨⟨l⟩⟩ := t
  cases l with
  | nil => exact absurd h (by decide)
  | cons c r =>
    have e1 : ((ByteArray.mk ⟨c :: r⟩).extract 0 (⟨#[45]⟩ : ByteArray).size).toList = [c] := by
      rw [Lib.toList_data, ByteArray.data_extract]
      show ((⟨c :: r⟩ : Array UInt8).extract 0 1).toList = [c]
      simp
    have e2 : (ByteArray.mk ⟨c :: r⟩)[0] = c := rfl
    rw [e1, e2]
    have e3 : (⟨#[45]⟩ : ByteArray).toList = [45] := by kernel_rfl
    rw [e3]
    simp only [beq_iff_eq, List.cons.injEq, and_true]
    constructor
    · rintro rfl; rfl
    · intro h; exact UInt8.toNat_inj.1 (Int.ofNat.inj h)
/-- The text of a Neg, as the reference makes it. -/
theorem rneg_text {f : Ex → ByteArray} {kids : List Ex} (h0 : 0 < kids.length) (hb : (kindE kids[0] = 1 → 8 ≤ bndE kids[0])) (k1 : Int) (hk : kindE kids[0] = k1) (hp : 0 < (kidT f kids 0 8).size) :
    (k1 = 1 → negT (kind0 kids) (kidT f kids 0 8) = ⟨#[45, 40]⟩ ++ f kids[0] ++ ⟨#[41]⟩) ∧
    ((k1 == 1) = false → (((kidT f kids 0 8)[0].toNat : Int) == 45) = true → negT (kind0 kids) (kidT f kids 0 8) = ⟨#[45, 40]⟩ ++ f kids[0] ++ ⟨#[41]⟩) ∧
    ((k1 == 1) = false → (((kidT f kids 0 8)[0].toNat : Int) == 45) = false → negT (kind0 kids) (kidT f kids 0 8) = ⟨#[45]⟩ ++ kidT f kids 0 8) := by
  subst hk
  have ek : kind0 kids = kindE kids[0] := by cases kids with | nil => cases h0 | cons e r => rfl
  have e1 : kidT f kids 0 8 = wrapT (bndE kids[0]) 8 (f kids[0]) := by unfold kidT; rw [List.getElem?_eq_getElem h0]
  have bt := byte_test _ hp
  rw [ek]
  refine ⟨fun h => ?_, fun h hc => ?_, fun h hc => ?_⟩
  · have e2 : kidT f kids 0 8 = f kids[0] := by rw [e1]; unfold wrapT; rw [if_neg (by have := hb h; omega)]
    unfold negT
    rw [if_pos (Or.inl h), e2]
  · have hpr := bt.2 hc
    have e2 : kidT f kids 0 8 = f kids[0] := by
      rw [e1] at hpr ⊢
      unfold wrapT at hpr ⊢
      by_cases hb8 : bndE kids[0] < 8
      · rw [if_pos hb8] at hpr
        exfalso
        have h0 : 0 < ((⟨#[40]⟩ : ByteArray) ++ f kids[0] ++ ⟨#[41]⟩).size := app_pos (by decide)
        have := (byte_test _ h0).1 hpr
        have e : ((⟨#[40]⟩ : ByteArray) ++ f kids[0] ++ ⟨#[41]⟩)[0] = 40 := by
          rw [ByteArray.getElem_append_left (by rw [ByteArray.size_append]; exact Nat.lt_of_lt_of_le (by decide : 0 < 1) (Nat.le_add_right _ _)), ByteArray.getElem_append_left (by decide)]
          rfl
        rw [e] at this
        exact absurd this (by decide)
      · rw [if_neg hb8]
    unfold negT
    rw [if_pos (Or.inr hpr), e2]
  · unfold negT
    rw [if_neg]
    rintro (h1 | h1)
    · simp [h1] at h
    · rw [bt.1 h1] at hc; cases hc

theorem bnd_one {e : Ex} (h : kindE e = 1) : 8 ≤ bndE e := by
  obtain ⟨k, a, n, nm, off, ks⟩ := e
  obtain rfl : k = 1 := h
  show 8 ≤ bnd 1 n nm
  unfold bnd
  rw [if_pos rfl]
  split <;> omega
theorem RKids.of {d : Nat} {w : World} {b o : Nat} {kids : List Ex}
    (h : ∀ i (hi : i < kids.length), ∃ k a n nm off sp sl sc, Six w b (o + i * 6) (.int .i64 k) (.int .i64 a) (.int .i64 n) (.string nm) (.bool off) (.slice sp sl sc) ∧
      (∀ l, RKidAt w (exVal k a n nm off (.slice sp sl sc)) l (kidT (txtN d) kids i l)) ∧ RTextW w (exVal k a n nm off (.slice sp sl sc)) (txtN d kids[i]) ∧ kindE kids[i] = k ∧ bndE kids[i] = bnd k n nm) :
    RKids w b o kids.length (kids.map (txtN d)) := by
  refine ⟨by simp, fun i hi => ?_⟩
  have hi2 : i < kids.length := by simpa using hi
  obtain ⟨k, a, n, nm, off, sp, sl, sc, h6, _, hT, _⟩ := h i hi2
  refine ⟨k, a, n, nm, off, sp, sl, sc, h6, ?_⟩
  rw [List.getElem_map]
  exact hT
theorem RKids.later {w w1 : World} {b o len : Nat} {ts : List ByteArray} (h : RKids w b o len ts) (hb : Below w.heap.size w w1) (hbw : b < w.heap.size) : RKids w1 b o len ts := by
  refine ⟨h.1, fun i hi => ?_⟩
  obtain ⟨k, a, n, nm, off, sp, sl, sc, h6, hT⟩ := h.2 i hi
  exact ⟨k, a, n, nm, off, sp, sl, sc, h6.below hb hbw, fun w2 h2 => hT w2 (hb.trans (h2.mono hb.size))⟩
set_option maxRecDepth 20000 in
theorem rtext_all : ∀ (d : Nat), d ≤ 6 → ∀ (e : Ex) (v : Value) (w : World) (B : Nat), Good d e → Rep w B d e v → B ≤ w.heap.size → RTextAt w B v (txtN d e)
  | 0, _, _, _, _, _, h, _, _ => h.elim
  | d + 1, hd6, .mk k a n nm off kids, v, w, B, hg, hr, hB => by
    have hfit : Fit (d + 1) (.mk k a n nm off kids) := hg.fit
    obtain ⟨ho, hk, hfirst, hkg⟩ := hg
    obtain ⟨s, rfl, hs⟩ := hr
    intro w1 h1
    have hB1 : B ≤ w1.heap.size := Nat.le_trans hB h1.size
    have hnm : nm.size ≤ 1000000 := Nat.le_trans (own1_size ho hk) (by decide)
    have hz : ∀ e, Good d e → (txtN d e).size ≤ 24057 := fun e he => by
      have g1 := txt_size d e he.fit
      have g2 := pow3_le (d := d) (by omega)
      omega
    have hd : ∀ e v, Good d e → Rep w1 B d e v → RTextAt w1 B v (txtN d e) ∧ (txtN d e).size ≤ 100000 := fun e v he hr =>
      ⟨rtext_all d (by omega) e v w1 B he hr hB1, Nat.le_trans (hz e he) (by decide)⟩
    have hks : ∀ i (h : i < kids.length), (txtN d kids[i]).size ≤ 100000 := fun i hi => Nat.le_trans (hz _ (hkg i hi)) (by decide)
    have hJ : (joinT (kids.map (txtN d))).size ≤ 100000000 := Nat.le_trans (joinT_le3 (M := 24057) (fun i hi => hz _ (hkg i hi)) (need_le hk)) (by decide)
    have hkz : ∀ i l, (kidT (txtN d) kids i l).size ≤ 100000000 := fun i l => Nat.le_trans (kidT_size (M := 24057) (fun i hi => hz _ (hkg i hi)) i l) (by decide)
    have h3 := need_le hk
    show Calls Tryd.prog 25 #[exVal k a n nm off s] w1 fun e w' => e = .returned (.string (shapeT (txtN d) k n nm off kids)) ∧ Below w1.heap.size w1 w'
    rcases hs with ⟨rfl, rfl⟩ | ⟨b, o, cap, rfl, hbB, hl, hcell⟩
    · unfold need at hk
      have hk' : k = 1 ∨ k = 2 ∨ k = 3 ∨ k = 13 ∨ k = 14 := by simp at hk; omega
      rcases hk' with rfl | rfl | rfl | rfl | rfl
      · exact rtext_int a n nm off _ w1 (fun w2 _ => digits_any n ho.1.1 ho.1.2 w2)
      · exact rtext_bool a n nm off _ w1 (ho.2.2.1 rfl)
      · exact rtext_var a n nm off _ w1
      · exact rtext_call a n nm off none 0 0 (joinT []) w1 hnm (by decide) (fun w2 _ => rrow_none none 0 w2)
      · exact rtext_await0 a n nm off none 0 w1 hnm
    · have hbw : b < w1.heap.size := Nat.lt_of_lt_of_le hbB hB1
      have K : ∀ i (hi : i < kids.length), ∃ k a n nm off sp sl sc, Six w1 b (o + i * 6) (.int .i64 k) (.int .i64 a) (.int .i64 n) (.string nm) (.bool off) (.slice sp sl sc) ∧
          (∀ l, RKidAt w1 (exVal k a n nm off (.slice sp sl sc)) l (kidT (txtN d) kids i l)) ∧ RTextW w1 (exVal k a n nm off (.slice sp sl sc)) (txtN d kids[i]) ∧ kindE kids[i] = k ∧ bndE kids[i] = bnd k n nm := fun i hi =>
        rkid_pack hi hB1 hd (hkg i hi) (by
          obtain ⟨c0, c1, c2, c3, c4, c5, h6, hr⟩ := hcell i hi
          exact ⟨c0, c1, c2, c3, c4, c5, h6.below h1 hbB, hr.below h1⟩)
      have KS : RKidsAt w1 (.slice (some ⟨b, o, none⟩) kids.length cap) (joinT (kids.map (txtN d))) := fun w2 h2 =>
        rrow_of b o kids.length cap (kids.map (txtN d)) w2 (by omega) (Nat.lt_of_lt_of_le hbw h2.size) (fun t ht => by
          obtain ⟨e, he, rfl⟩ := List.mem_map.1 ht
          obtain ⟨i, hi, rfl⟩ := List.getElem_of_mem he
          exact hks i hi) ((RKids.of K).later h2 hbw)
      have hk0 := hk
      unfold need at hk
      rcases hk with ⟨rfl | rfl | rfl, hm⟩ | ⟨rfl | rfl | rfl | rfl, hm⟩ | ⟨rfl | rfl | rfl | rfl, hm⟩ | ⟨rfl, hm⟩ | ⟨rfl | rfl, hm⟩
      · exact rtext_int a n nm off _ w1 (fun w2 _ => digits_any n ho.1.1 ho.1.2 w2)
      · exact rtext_bool a n nm off _ w1 (ho.2.2.1 rfl)
      · exact rtext_var a n nm off _ w1
      · obtain ⟨k0, a0, n0, nm0, off0, sp0, sl0, sc0, c0, e0, f0, hk0, _⟩ := K 0 (by omega)
        have hp : 0 < (kidT (txtN d) kids 0 8).size := by
          have e1 : kidT (txtN d) kids 0 8 = wrapT (bndE kids[0]) 8 (txtN d kids[0]) := by unfold kidT; rw [List.getElem?_eq_getElem (by omega : 0 < kids.length)]
          rw [e1]; unfold wrapT; split
          · exact app_pos (by decide)
          · exact txt_pos (hkg 0 (by omega))
        obtain ⟨r1, r2, r3⟩ := rneg_text (f := txtN d) (kids := kids) (by omega) bnd_one k0 hk0 hp
        show Calls Tryd.prog 25 _ w1 fun e w' => e = .returned (.string (negT (kind0 kids) (kidT (txtN d) kids 0 8))) ∧ _
        by_cases g : k0 = 1
        · rw [r1 g]
          exact rneg_one a n nm off b o kids.length cap k0 a0 n0 nm0 off0 _ _ _ w1 hm hbw (Nat.le_trans (hks 0 (by omega)) (by decide)) (hkz 0 8) hp g c0 (e0 8) f0
        · have gb : (k0 == 1) = false := by simpa using g
          cases hc : (((kidT (txtN d) kids 0 8)[0].toNat : Int) == 45)
          · rw [r3 gb hc]
            exact rneg_other a n nm off b o kids.length cap k0 a0 n0 nm0 off0 _ _ _ w1 hm hbw (Nat.le_trans (hks 0 (by omega)) (by decide)) (hkz 0 8) hp gb hc c0 (e0 8) f0
          · rw [r2 gb hc]
            exact rneg_minus a n nm off b o kids.length cap k0 a0 n0 nm0 off0 _ _ _ w1 hm hbw (Nat.le_trans (hks 0 (by omega)) (by decide)) (hkz 0 8) hp gb hc c0 (e0 8) f0
      · obtain ⟨k0, a0, n0, nm0, off0, sp0, sl0, sc0, c0, e0, f0, _, _⟩ := K 0 (by omega)
        exact rtext_not a n nm off b o kids.length cap k0 a0 n0 nm0 off0 _ _ w1 hm hbw (hkz 0 4) c0 (e0 4)
      · obtain ⟨k0, a0, n0, nm0, off0, sp0, sl0, sc0, c0, e0, f0, _, _⟩ := K 0 (by omega)
        exact rtext_pre a n nm off b o kids.length cap k0 a0 n0 nm0 off0 _ _ w1 hm hbw (hkz 0 8) c0 (e0 8)
      · obtain ⟨k0, a0, n0, nm0, off0, sp0, sl0, sc0, c0, e0, f0, _, _⟩ := K 0 (by omega)
        cases off
        · have := rtext_when a n nm b o kids.length cap k0 a0 n0 nm0 off0 _ _ w1 hm hbw hnm (hkz 0 9) c0 (e0 9)
          rw [ByteArray.append_assoc] at this
          exact this
        · have := rtext_whennot a n nm b o kids.length cap k0 a0 n0 nm0 off0 _ _ w1 hm hbw hnm (hkz 0 9) c0 (e0 9)
          rw [ByteArray.append_assoc] at this
          exact this
      · obtain ⟨k0, a0, n0, nm0, off0, sp0, sl0, sc0, c0, e0, f0, _, _⟩ := K 0 (by omega)
        obtain ⟨k1, a1, n1, nm1, off1, sp1, sl1, sc1, c1, e1, f1, _, _⟩ := K 1 (by omega)
        show Calls Tryd.prog 25 _ w1 fun e w' => e = .returned (.string (kidT (txtN d) kids 0 (if signB nm = 5 then 6 else signB nm) ++ ⟨#[32]⟩ ++ nm ++ ⟨#[32]⟩ ++ kidT (txtN d) kids 1 (signB nm + 1))) ∧ _
        by_cases g5 : signB nm = 5
        · rw [if_pos g5]
          have e1' := e1 6
          rw [show (6 : Int) = signB nm + 1 by omega] at e1'
          have := rtext_five a n nm off b o kids.length cap k0 a0 n0 nm0 off0 _ k1 a1 n1 nm1 off1 _ _ _ w1 g5 hm hbw hnm (hkz 0 6) (hkz 1 6) c0 c1 (e0 6) (e1 6)
          rw [show signB nm + 1 = 6 by omega]
          exact this
        · rw [if_neg g5]
          exact rtext_other a n nm off b o kids.length cap k0 a0 n0 nm0 off0 _ k1 a1 n1 nm1 off1 _ _ _ w1 (signB nm) rfl (signB_range nm).1 (signB_range nm).2 g5 hm hbw hnm (hkz 0 _) (hkz 1 _) c0 c1 (e0 _) (e1 _)
      · obtain ⟨k0, a0, n0, nm0, off0, sp0, sl0, sc0, c0, e0, f0, _, _⟩ := K 0 (by omega)
        obtain ⟨k1, a1, n1, nm1, off1, sp1, sl1, sc1, c1, e1, f1, _, _⟩ := K 1 (by omega)
        exact rtext_arrow a n nm off b o kids.length cap k0 a0 n0 nm0 off0 _ k1 a1 n1 nm1 off1 _ _ _ w1 hm hbw hnm (hkz 0 2) (hkz 1 1) c0 c1 (e0 2) (e1 1)
      · obtain ⟨k0, a0, n0, nm0, off0, sp0, sl0, sc0, c0, e0, f0, _, _⟩ := K 0 (by omega)
        obtain ⟨k1, a1, n1, nm1, off1, sp1, sl1, sc1, c1, e1, f1, _, _⟩ := K 1 (by omega)
        exact rtext_fby a n nm off b o kids.length cap k0 a0 n0 nm0 off0 _ k1 a1 n1 nm1 off1 _ _ _ w1 hm hbw hnm (hkz 0 0) (hkz 1 1) c0 c1 (e0 0) (e1 1)
      · obtain ⟨k0, a0, n0, nm0, off0, sp0, sl0, sc0, c0, e0, f0, _, _⟩ := K 0 (by omega)
        obtain ⟨k1, a1, n1, nm1, off1, sp1, sl1, sc1, c1, e1, f1, _, _⟩ := K 1 (by omega)
        show Calls Tryd.prog 25 _ w1 fun e w' => e = .returned (.string (⟨#[109, 101, 114, 103, 101, 32]⟩ ++ nm ++ ⟨#[32, 40]⟩ ++ kidT (txtN d) kids 0 0 ++ ⟨#[41, 32, 40]⟩ ++ kidT (txtN d) kids 1 0 ++ ⟨#[41]⟩)) ∧ _
        rw [kidT_zero (by omega : 0 < kids.length), kidT_zero (by omega : 1 < kids.length)]
        exact rtext_merge a n nm off b o kids.length cap k0 a0 n0 nm0 off0 _ k1 a1 n1 nm1 off1 _ _ _ w1 hm hbw hnm (Nat.le_trans (hks 0 (by omega)) (by decide)) (Nat.le_trans (hks 1 (by omega)) (by decide)) c0 c1 f0 f1
      · obtain ⟨k0, a0, n0, nm0, off0, sp0, sl0, sc0, c0, e0, f0, _, _⟩ := K 0 (by omega)
        obtain ⟨k1, a1, n1, nm1, off1, sp1, sl1, sc1, c1, e1, f1, _, _⟩ := K 1 (by omega)
        obtain ⟨k2, a2, n2, nm2, off2, sp2, sl2, sc2, c2, e2, f2, _, _⟩ := K 2 (by omega)
        exact rtext_if a n nm off b o kids.length cap k0 a0 n0 nm0 off0 _ k1 a1 n1 nm1 off1 _ k2 a2 n2 nm2 off2 _ _ _ _ w1 hm hbw hnm (hkz 0 0) (hkz 1 0) (hkz 2 0) c0 c1 c2 (e0 0) (e1 0) (e2 0)
      · exact rtext_call a n nm off _ kids.length cap _ w1 hnm hJ KS
      · by_cases hz : kids = []
        · subst hz
          exact rtext_await0 a n nm off _ _ w1 hnm
        · have hpos : 0 < kids.length := List.length_pos_iff.2 hz
          have e : shapeT (txtN d) 14 n nm off kids = ⟨#[97, 119, 97, 105, 116, 32]⟩ ++ nm ++ ⟨#[32, 97, 102, 116, 101, 114, 32, 40]⟩ ++ joinT (kids.map (txtN d)) ++ ⟨#[41]⟩ := by
            unfold shapeT
            simp [hz, ByteArray.append_assoc]
          rw [e]
          exact rtext_await a n nm off _ kids.length cap _ w1 hpos hnm hJ KS
end Go.Proofs.YthhkjjdhecpmlaaDoor
