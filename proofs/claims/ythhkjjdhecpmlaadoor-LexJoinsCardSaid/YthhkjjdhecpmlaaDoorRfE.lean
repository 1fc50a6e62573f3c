/-
  Package girandoleref01: one, at a digit and elsewhere.
-/
import Derived.Test.YthhkjjdhecpmlaaDoorRfD
namespace Go.Proofs.YthhkjjdhecpmlaaDoor
open Go.RowKit
theorem pre_eq {s t : ByteArray} {k : Nat} (hk : k ≤ s.size) : pre t (s.extract k s.size) = if k + t.size ≤ s.size then ((s.extract k (k + t.size)).toList == t.toList) else false := by
  unfold pre
  by_cases h : k + t.size ≤ s.size
  · rw [if_pos h, if_pos (by rw [extract_size' hk (Nat.le_refl _)]; omega)]
    have e : (s.extract k s.size).extract 0 t.size = s.extract k (k + t.size) := by
      apply bytes_ext
      have e : s.data.toList.length = s.size := rfl
      simp
      omega
    rw [e]
  · rw [if_neg h, if_neg (by rw [extract_size' hk (Nat.le_refl _)]; omega)]
theorem numT_of (k : Nat) (t : ByteArray) : (numT k t).2 = (refNum t).2 ∧ ((refNum t).2 = 0 → (numT k t).1 = ⟨2, k, t, (refNum t).1⟩) := by
  unfold numT refNum
  split
  · exact ⟨rfl, fun h => by cases h⟩
  · split
    · exact ⟨rfl, fun h => by cases h⟩
    · exact ⟨rfl, fun _ => rfl⟩
set_option maxHeartbeats 4000000 in
set_option maxRecDepth 100000 in
theorem one_num (s : ByteArray) (k : Nat) (w : World) (hs : s.size ≤ 4000) (hk : k < s.size) (hl : bLetter s[k] = false) (hd : bDigit s[k] = true) (e0 : Nat) (he : beh bDigit s k = e0) :
    Calls Tryd.prog 48 #[.string s, .int .i64 k] w (OnePost k (numT k (s.extract k e0)) w) := by
  have hz : e0 ≤ s.size := he ▸ beh_size (by omega)
  have hz2 : k + 1 ≤ e0 := he ▸ beh_first hk hd
  have HSZ := Lib.hid (show (s.extract k e0).size = e0 - k from extract_size' (by omega) hz)
  have HDG := Lib.hid (show Digs (s.extract k e0).data.toList from he ▸ digs_of s k)
  have HE := Lib.hid he; clear he
  have hcl : (cls s[k] == 1) = false := by rw [cls_1]; exact hl
  have hcl2 : (cls s[k] == 2) = true := by rw [cls_2 hl]; exact hd
  clear hl hd
  obtain ⟨c0, hc0⟩ : ∃ c, s[k] = c := ⟨_, rfl⟩
  rw [hc0] at hcl hcl2
  go_enter Tryd.func48, Tryd.ntmps48
  go_wp2_with fail
  refine (class_any c0 _).mono ?_
  rintro x w' ⟨rfl, rfl⟩
  generalize cls c0 = cv at *
  go_wp2_with fail
  clear hc0
  go_loop [7] (fun t' => ∃ i : Nat, k ≤ i ∧ i ≤ s.size ∧ t' = .int .i64 i ∧ Hid (beh bDigit s i = e0)) (fun t' => s.size - (intOf t').toNat)
  case atStart => exact ⟨k, Nat.le_refl _, by omega, rfl, HE⟩
  case round =>
    obtain ⟨i, hi1, hi2, rfl, HI⟩ := hrel
    by_cases hlt : i < s.size
    · obtain ⟨c, hc⟩ : ∃ c, s[i] = c := ⟨_, rfl⟩
      have hdig : (cls c == 2) = bDigit c := by
        cases hl : bLetter c
        · exact cls_2 hl
        · have h1 : bDigit c = false := by
            cases h : bDigit c
            · rfl
            · rw [bLetter_iff] at hl; rw [bDigit_iff] at h; omega
          rw [h1]; unfold cls; rw [hl]; rfl
      cases hb : bDigit c
      · have hie : i = e0 := (beh_stop hlt (show bDigit s[i] = false by rw [hc]; exact hb)).symm.trans HI.out
        rw [hb] at hdig
        subst hie
        clear hb HI
        go_wp2_with (go_at_call 81; refine (class_any c _).mono ?_; rintro x w' ⟨rfl, rfl⟩)
        clear hc hdig
        have hdg : Digs (s.extract k i).data.toList := HDG.out
        go_wp2_with fail
        refine (refNumber_any (s.extract k i) _ (by rw [HSZ.out]; omega) hdg).mono ?_
        rintro x w' ⟨rfl, rfl⟩
        obtain ⟨⟨n, er⟩, hne⟩ : ∃ p, refNum (s.extract k i) = p := ⟨_, rfl⟩
        have HNE := Lib.hid hne
        rw [hne]
        clear hne hdg
        go_wp2_with fail
        refine bodyPost_ret (v := .tuple #[tokV 2 k (s.extract k i) n, .int .i64 i, .int .i64 er]) (by simp [results, Tryd.results48, go_sem]) rfl ⟨(Below.refl _ _).alloc (Nat.le_refl _) _, ?_⟩
        have hof := numT_of k (s.extract k i)
        rw [HNE.out] at hof
        rw [hof.1]
        refine ⟨⟨2, k, s.extract k i, n⟩, _, rfl, fun h => ⟨(hof.2 h).symm, ?_⟩⟩
        rw [hof.2 h]
        show (i : Int) = ((k + (s.extract k i).size : Nat) : Int); rw [HSZ.out]; omega
      · have hst := beh_step hlt (show bDigit s[i] = true by rw [hc]; exact hb)
        have HST := Lib.hid (hst.symm.trans HI.out); clear hst
        rw [hb] at hdig
        clear hb
        go_wp2_with (go_at_call 81; refine (class_any c _).mono ?_; rintro x w' ⟨rfl, rfl⟩)
        go_round
        case rel => exact ⟨i + 1, by omega, by omega, by go_num, HST⟩
        case measure => simp [intOf]; omega
    · have hie : i = e0 := (beh_end (p := bDigit) (s := s) (k := i) (by omega)).symm.trans HI.out
      subst hie
      clear HI
      have hdg : Digs (s.extract k i).data.toList := HDG.out
      go_wp2_with fail
      refine (refNumber_any (s.extract k i) _ (by rw [HSZ.out]; omega) hdg).mono ?_
      rintro x w' ⟨rfl, rfl⟩
      obtain ⟨⟨n, er⟩, hne⟩ : ∃ p, refNum (s.extract k i) = p := ⟨_, rfl⟩
      have HNE := Lib.hid hne
      rw [hne]
      clear hne hdg
      go_wp2_with fail
      refine bodyPost_ret (v := .tuple #[tokV 2 k (s.extract k i) n, .int .i64 i, .int .i64 er]) (by simp [results, Tryd.results48, go_sem]) rfl ⟨(Below.refl _ _).alloc (Nat.le_refl _) _, ?_⟩
      have hof := numT_of k (s.extract k i)
      rw [HNE.out] at hof
      rw [hof.1]
      refine ⟨⟨2, k, s.extract k i, n⟩, _, rfl, fun h => ⟨(hof.2 h).symm, ?_⟩⟩
      rw [hof.2 h]
      show (i : Int) = ((k + (s.extract k i).size : Nat) : Int); rw [HSZ.out]; omega
set_option maxHeartbeats 4000000 in
set_option maxRecDepth 100000 in
theorem one_sign (s : ByteArray) (k : Nat) (w : World) (hs : s.size ≤ 4000) (hk : k < s.size) (hl : bLetter s[k] = false) (hd : bDigit s[k] = false) :
    Calls Tryd.prog 48 #[.string s, .int .i64 k] w (OnePost k (signT s k) w) := by
  have hcl : (cls s[k] == 1) = false := by rw [cls_1]; exact hl
  have hcl2 : (cls s[k] == 2) = false := by rw [cls_2 hl]; exact hd
  clear hl hd
  obtain ⟨d0, hc0⟩ : ∃ c, s[k] = c := ⟨_, rfl⟩
  rw [hc0] at hcl hcl2
  go_enter Tryd.func48, Tryd.ntmps48
  go_wp2_with fail
  refine (class_any d0 _).mono ?_
  rintro x w' ⟨rfl, rfl⟩
  generalize cls d0 = cv at *
  go_wp2_with fail
  clear hc0
  refine (refSigns_any _).mono ?_
  rintro x w1 ⟨b, cap, rfl, ht1, hb1, hlo1, hz1⟩
  rw [show signL.length = 16 from rfl]
  simp only [World.size_alloc] at hb1 hlo1
  have hb0 : Below w.heap.size w w1 := ((Below.refl _ _).alloc (Nat.le_refl _) _).trans (hb1.mono (by omega))
  have c0 : w1.cell? ⟨w.heap.size, 0, none⟩ = some (.int .i64 0) := by rw [hb1.cell (p := ⟨w.heap.size, 0, none⟩) (by simp)]; simp
  have c1 : w1.cell? ⟨w.heap.size, 1, none⟩ = some (.int .i64 0) := by rw [hb1.cell (p := ⟨w.heap.size, 1, none⟩) (by simp)]; simp
  have c2 : w1.cell? ⟨w.heap.size, 2, none⟩ = some (.string ⟨#[]⟩) := by rw [hb1.cell (p := ⟨w.heap.size, 2, none⟩) (by simp)]; simp
  have c3 : w1.cell? ⟨w.heap.size, 3, none⟩ = some (.int .u64 0) := by rw [hb1.cell (p := ⟨w.heap.size, 3, none⟩) (by simp)]; simp
  have z0 : ∀ o, w1.frozen? ⟨w.heap.size, o, none⟩ = false := fun o => by rw [hb1.frozen (p := ⟨w.heap.size, o, none⟩) (by simp)]; simp
  have HB0 := Lib.hid hb0; have HT1 := Lib.hid ht1
  clear hb1 hb0 ht1
  go_wp2_with fail
  go_loop [105] (fun t' => ∃ j : Nat, j ≤ 16 ∧ t' = .int .i64 j ∧ Hid (firstOf s k (signL.drop j) = firstOf s k signL)) (fun t' => 16 - (intOf t').toNat)
  case atStart => exact ⟨0, Nat.zero_le _, rfl, Lib.hid rfl⟩
  case round =>
    obtain ⟨j, hj, rfl, HJ⟩ := hrel
    by_cases hlt3 : j < 16
    · have hcell := HT1.out j hlt3
      have hss := sign_small j hlt3
      cases hq : pre (signL.getD j ByteArray.empty) (s.extract k s.size)
      · have HST := Lib.hid ((firstOf_step hlt3 hq).symm.trans HJ.out)
        generalize signL.getD j ByteArray.empty = x at *
        rw [pre_eq (by omega)] at hq
        by_cases h2 : k + x.size ≤ s.size
        · rw [if_pos h2] at hq
          go_wp2_with fail
          go_round
          case rel => exact ⟨j + 1, by omega, by go_num, HST⟩
          case measure => simp [intOf]; omega
        · clear hq
          go_wp2_with fail
          go_round
          case rel => exact ⟨j + 1, by omega, by go_num, HST⟩
          case measure => simp [intOf]; omega
      · have hf : firstOf s k signL = some (signL.getD j ByteArray.empty) := HJ.out.symm.trans (firstOf_hit hlt3 hq)
        have HN := Lib.hid (show signT s k = (⟨4, k, signL.getD j ByteArray.empty, 0⟩, 0) by unfold signT; rw [hf])
        clear hf
        generalize signL.getD j ByteArray.empty = x at *
        have h2 := (pre_cut (by omega) hq).1
        rw [pre_eq (by omega), if_pos h2] at hq
        go_wp2_with fail
        refine bodyPost_ret (v := .tuple #[tokV 4 k x 0, .int .i64 (k + x.size), .int .i64 0]) (by simp [results, Tryd.results48, go_sem, c0, c1, c2, c3]) rfl ⟨(((HB0.out.setCell (by simp) _).setCell (by simp) _).setCell (by simp) _).setCell (by simp) _, ?_⟩
        rw [HN.out]
        exact ⟨⟨4, k, x, 0⟩, _, rfl, fun _ => ⟨rfl, by show (k : Int) + (x.size : Int) = ((k + x.size : Nat) : Int); omega⟩⟩
    · have hj16 : j = 16 := by omega
      subst hj16
      have HN := Lib.hid (show signT s k = (Tk.zero, 1) by unfold signT; rw [show firstOf s k signL = none from HJ.out.symm.trans rfl])
      go_wp2_with fail
      refine bodyPost_ret (v := .tuple #[tokV 0 0 ⟨#[]⟩ 0, .int .i64 k, .int .i64 1]) (by simp [results, Tryd.results48, go_sem, c0, c1, c2, c3]) rfl ⟨(((HB0.out.setCell (by simp) _).setCell (by simp) _).setCell (by simp) _).setCell (by simp) _, ?_⟩
      rw [HN.out]
      exact ⟨Tk.zero, _, rfl, fun h => by cases h⟩

/-- one, wherever. -/
theorem one_any (s : ByteArray) (k : Nat) (w : World) (hs : s.size ≤ 4000) (hk : k < s.size) :
    Calls Tryd.prog 48 #[.string s, .int .i64 k] w (OnePost k (nextT s k s[k]) w) := by
  unfold nextT
  cases hl : bLetter s[k]
  · rw [if_neg Bool.false_ne_true]
    cases hd : bDigit s[k]
    · rw [if_neg Bool.false_ne_true]
      exact one_sign s k w hs hk hl hd
    · rw [if_pos rfl]
      exact one_num s k w hs hk hl hd _ rfl
  · rw [if_pos rfl]
    exact one_name s k w hs hk hl _ rfl
end Go.Proofs.YthhkjjdhecpmlaaDoor
