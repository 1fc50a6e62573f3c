/-
  Package girandoleref01: one, at a letter.
-/
import Derived.Test.YthhkjjdhecpmlaaDoorRfC
import Derived.Test.YthhkjjdhecpmlaaDoorLxW
namespace Go.Proofs.YthhkjjdhecpmlaaDoor
open Go.RowKit
theorem cls_1 (b : UInt8) : (cls b == 1) = bLetter b := by
  unfold cls
  cases bLetter b
  · cases bDigit b
    · cases bBlank b <;> rfl
    · rfl
  · rfl
theorem cls_2 {b : UInt8} (h : bLetter b = false) : (cls b == 2) = bDigit b := by
  unfold cls
  rw [h]
  cases bDigit b
  · cases bBlank b <;> rfl
  · rfl
/-- What one says. -/
def OnePost (k : Nat) (R : Tk × Int) (w : World) (e : Ending) (w' : World) : Prop :=
  Below w.heap.size w w' ∧ ∃ (t : Tk) (nx : Int), e = .returned (.tuple #[t.val, .int .i64 nx, .int .i64 R.2]) ∧ (R.2 = 0 → t = R.1 ∧ nx = ((k + R.1.text.size : Nat) : Int))
theorem eq_of_lists {a b : ByteArray} (h : (a.toList == b.toList) = true) : a = b := by
  have := beq_iff_eq.1 h
  rw [ByteArray.toList_eq, ByteArray.toList_eq] at this
  exact bytes_ext this

set_option maxHeartbeats 4000000 in
set_option maxRecDepth 100000 in
theorem one_name (s : ByteArray) (k : Nat) (w : World) (hs : s.size ≤ 4000) (hk : k < s.size) (hl : bLetter s[k] = true) (e0 : Nat) (he : beh bName s k = e0) :
    Calls Tryd.prog 48 #[.string s, .int .i64 k] w (OnePost k (nameT k (s.extract k e0)) w) := by
  have hz : e0 ≤ s.size := he ▸ beh_size (by omega)
  have hz2 : k + 1 ≤ e0 := he ▸ beh_first hk (by unfold bName; rw [hl]; rfl)
  have HSZ := Lib.hid (show (s.extract k e0).size = e0 - k from extract_size' (by omega) hz)
  have HE := Lib.hid he; clear he
  have hcl : (cls s[k] == 1) = true := by rw [cls_1]; exact hl
  clear hl
  obtain ⟨c0, hc0⟩ : ∃ c, s[k] = c := ⟨_, rfl⟩
  rw [hc0] at hcl
  go_enter Tryd.func48, Tryd.ntmps48
  go_wp2_with fail
  refine (class_any c0 _).mono ?_
  rintro x w' ⟨rfl, rfl⟩
  generalize cls c0 = cv at *
  go_wp2_with fail
  clear hc0
  go_loop [7] (fun t' => ∃ i : Nat, k ≤ i ∧ i ≤ s.size ∧ t' = .int .i64 i ∧ Hid (beh bName s i = e0)) (fun t' => s.size - (intOf t').toNat)
  case atStart => exact ⟨k, Nat.le_refl _, by omega, rfl, HE⟩
  case round =>
    obtain ⟨i, hi1, hi2, rfl, HI⟩ := hrel
    by_cases hlt : i < s.size
    · obtain ⟨c, hc⟩ : ∃ c, s[i] = c := ⟨_, rfl⟩
      cases hb : bName c
      · have hie : i = e0 := (beh_stop hlt (show bName s[i] = false by rw [hc]; exact hb)).symm.trans HI.out
        have hl : bLetter c = false := by
          unfold bName at hb; cases h : bLetter c
          · rfl
          · rw [h] at hb; cases hb
        have hd : bDigit c = false := by
          unfold bName at hb; rw [hl] at hb; simpa using hb
        have f1 : (cls c == 1) = false := by rw [cls_1, hl]
        have f2 : (cls c == 2) = false := by rw [cls_2 hl, hd]
        subst hie
        clear hb hl hd HI
        go_wp2_with (go_at_call 81; refine (class_any c _).mono ?_; rintro x w' ⟨rfl, rfl⟩)
        clear hc f1 f2
        go_wp2_with fail
        refine (refWords_any _).mono ?_
        rintro x w1 ⟨b, cap, rfl, ht1, hb1, hlo1, hz1⟩
        rw [show wordL.length = 25 from rfl]
        simp only [World.size_alloc] at hb1 hlo1
        have hb0 : Below w.heap.size w w1 := ((Below.refl _ _).alloc (Nat.le_refl _) _).trans (hb1.mono (by omega))
        have c0 : w1.cell? ⟨w.heap.size, 0, none⟩ = some (.int .i64 0) := by rw [hb1.cell (p := ⟨w.heap.size, 0, none⟩) (by simp)]; simp
        have c1 : w1.cell? ⟨w.heap.size, 1, none⟩ = some (.int .i64 0) := by rw [hb1.cell (p := ⟨w.heap.size, 1, none⟩) (by simp)]; simp
        have c2 : w1.cell? ⟨w.heap.size, 2, none⟩ = some (.string ⟨#[]⟩) := by rw [hb1.cell (p := ⟨w.heap.size, 2, none⟩) (by simp)]; simp
        have c3 : w1.cell? ⟨w.heap.size, 3, none⟩ = some (.int .u64 0) := by rw [hb1.cell (p := ⟨w.heap.size, 3, none⟩) (by simp)]; simp
        have z0 : ∀ o, w1.frozen? ⟨w.heap.size, o, none⟩ = false := fun o => by rw [hb1.frozen (p := ⟨w.heap.size, o, none⟩) (by simp)]; simp
        have HB0 := Lib.hid hb0; have HT1 := Lib.hid ht1
        clear hb1 hb0 ht1
        go_wp2_with fail
        go_loop [43] (fun t' => ∃ j : Nat, j ≤ 25 ∧ t' = .int .i64 j ∧ Hid (isOne (wordL.drop j) (s.extract k i) = isOne wordL (s.extract k i))) (fun t' => 25 - (intOf t').toNat)
        case atStart => exact ⟨0, Nat.zero_le _, rfl, Lib.hid rfl⟩
        case round =>
          obtain ⟨j, hj, rfl, HJ⟩ := hrel
          by_cases hlt3 : j < 25
          · have hcell := HT1.out j hlt3
            cases hq : ((s.extract k i).toList == (wordL.getD j ByteArray.empty).toList)
            · have HST := Lib.hid ((isOne_step hlt3 hq).symm.trans HJ.out)
              generalize wordL.getD j ByteArray.empty = x at *
              have hq2 : (x.toList == (s.extract k i).toList) = false := by rw [Bool.beq_comm]; exact hq
              clear hq
              go_wp2_with fail
              go_round
              case rel => exact ⟨j + 1, by omega, by go_num, HST⟩
              case measure => simp [intOf]; omega
            · have hone : isOne wordL (s.extract k i) = true := HJ.out.symm.trans (isOne_hit hlt3 hq)
              have hxe := eq_of_lists hq
              have HN := Lib.hid (show nameT k (s.extract k i) = (⟨3, k, s.extract k i, 0⟩, 0) by unfold nameT; rw [if_pos hone])
              generalize wordL.getD j ByteArray.empty = x at *
              have HXE := Lib.hid hxe
              have hq2 : (x.toList == (s.extract k i).toList) = true := by rw [Bool.beq_comm]; exact hq
              clear hq hone hxe
              go_wp2_with fail
              refine bodyPost_ret (v := .tuple #[tokV 3 k x 0, .int .i64 i, .int .i64 0]) (by simp [results, Tryd.results48, go_sem, c0, c1, c2, c3]) rfl ⟨(((HB0.out.setCell (by simp) _).setCell (by simp) _).setCell (by simp) _).setCell (by simp) _, ?_⟩
              rw [HN.out]
              exact ⟨⟨3, k, x, 0⟩, _, rfl, fun _ => ⟨by rw [← HXE.out], by show (i : Int) = ((k + (s.extract k i).size : Nat) : Int); rw [HSZ.out]; omega⟩⟩
          · have hj25 : j = 25 := by omega
            subst hj25
            have hone : isOne wordL (s.extract k i) = false := HJ.out.symm.trans rfl
            by_cases hbig : (30 : Int) < (i : Int) - (k : Int)
            · have HN := Lib.hid (show nameT k (s.extract k i) = (Tk.zero, 3) by unfold nameT; rw [if_neg (by rw [hone]; exact Bool.false_ne_true), if_pos (by rw [HSZ.out]; omega)])
              clear hone
              go_wp2_with fail
              refine bodyPost_ret (v := .tuple #[tokV 0 0 ⟨#[]⟩ 0, .int .i64 i, .int .i64 3]) (by simp [results, Tryd.results48, go_sem, c0, c1, c2, c3]) rfl ⟨(((HB0.out.setCell (by simp) _).setCell (by simp) _).setCell (by simp) _).setCell (by simp) _, ?_⟩
              rw [HN.out]
              exact ⟨Tk.zero, _, rfl, fun h => by cases h⟩
            · have HN := Lib.hid (show nameT k (s.extract k i) = (⟨1, k, s.extract k i, 0⟩, 0) by unfold nameT; rw [if_neg (by rw [hone]; exact Bool.false_ne_true), if_neg (by rw [HSZ.out]; omega)])
              clear hone
              go_wp2_with fail
              refine bodyPost_ret (v := .tuple #[tokV 1 k (s.extract k i) 0, .int .i64 i, .int .i64 0]) (by simp [results, Tryd.results48, go_sem, c0, c1, c2, c3]) rfl ⟨(((HB0.out.setCell (by simp) _).setCell (by simp) _).setCell (by simp) _).setCell (by simp) _, ?_⟩
              rw [HN.out]
              exact ⟨⟨1, k, s.extract k i, 0⟩, _, rfl, fun _ => ⟨rfl, by show (i : Int) = ((k + (s.extract k i).size : Nat) : Int); rw [HSZ.out]; omega⟩⟩
      · have hst := beh_step hlt (show bName s[i] = true by rw [hc]; exact hb)
        have HST := Lib.hid (hst.symm.trans HI.out); clear hst
        cases hl : bLetter c
        · have f1 : (cls c == 1) = false := by rw [cls_1, hl]
          have f2 : (cls c == 2) = true := by rw [cls_2 hl]; unfold bName at hb; rw [hl] at hb; simpa using hb
          clear hb hl
          go_wp2_with (go_at_call 81; refine (class_any c _).mono ?_; rintro x w' ⟨rfl, rfl⟩)
          go_round
          case rel => exact ⟨i + 1, by omega, by omega, by go_num, HST⟩
          case measure => simp [intOf]; omega
        · have f1 : (cls c == 1) = true := by rw [cls_1, hl]
          clear hb hl
          go_wp2_with (go_at_call 81; refine (class_any c _).mono ?_; rintro x w' ⟨rfl, rfl⟩)
          go_round
          case rel => exact ⟨i + 1, by omega, by omega, by go_num, HST⟩
          case measure => simp [intOf]; omega
    · have hie : i = e0 := (beh_end (p := bName) (s := s) (k := i) (by omega)).symm.trans HI.out
      subst hie
      clear HI
      go_wp2_with fail
      refine (refWords_any _).mono ?_
      rintro x w1 ⟨b, cap, rfl, ht1, hb1, hlo1, hz1⟩
      rw [show wordL.length = 25 from rfl]
      simp only [World.size_alloc] at hb1 hlo1
      have hb0 : Below w.heap.size w w1 := ((Below.refl _ _).alloc (Nat.le_refl _) _).trans (hb1.mono (by omega))
      have c0 : w1.cell? ⟨w.heap.size, 0, none⟩ = some (.int .i64 0) := by rw [hb1.cell (p := ⟨w.heap.size, 0, none⟩) (by simp)]; simp
      have c1 : w1.cell? ⟨w.heap.size, 1, none⟩ = some (.int .i64 0) := by rw [hb1.cell (p := ⟨w.heap.size, 1, none⟩) (by simp)]; simp
      have c2 : w1.cell? ⟨w.heap.size, 2, none⟩ = some (.string ⟨#[]⟩) := by rw [hb1.cell (p := ⟨w.heap.size, 2, none⟩) (by simp)]; simp
      have c3 : w1.cell? ⟨w.heap.size, 3, none⟩ = some (.int .u64 0) := by rw [hb1.cell (p := ⟨w.heap.size, 3, none⟩) (by simp)]; simp
      have z0 : ∀ o, w1.frozen? ⟨w.heap.size, o, none⟩ = false := fun o => by rw [hb1.frozen (p := ⟨w.heap.size, o, none⟩) (by simp)]; simp
      have HB0 := Lib.hid hb0; have HT1 := Lib.hid ht1
      clear hb1 hb0 ht1
      go_wp2_with fail
      go_loop [43] (fun t' => ∃ j : Nat, j ≤ 25 ∧ t' = .int .i64 j ∧ Hid (isOne (wordL.drop j) (s.extract k i) = isOne wordL (s.extract k i))) (fun t' => 25 - (intOf t').toNat)
      case atStart => exact ⟨0, Nat.zero_le _, rfl, Lib.hid rfl⟩
      case round =>
        obtain ⟨j, hj, rfl, HJ⟩ := hrel
        by_cases hlt3 : j < 25
        · have hcell := HT1.out j hlt3
          cases hq : ((s.extract k i).toList == (wordL.getD j ByteArray.empty).toList)
          · have HST := Lib.hid ((isOne_step hlt3 hq).symm.trans HJ.out)
            generalize wordL.getD j ByteArray.empty = x at *
            have hq2 : (x.toList == (s.extract k i).toList) = false := by rw [Bool.beq_comm]; exact hq
            clear hq
            go_wp2_with fail
            go_round
            case rel => exact ⟨j + 1, by omega, by go_num, HST⟩
            case measure => simp [intOf]; omega
          · have hone : isOne wordL (s.extract k i) = true := HJ.out.symm.trans (isOne_hit hlt3 hq)
            have hxe := eq_of_lists hq
            have HN := Lib.hid (show nameT k (s.extract k i) = (⟨3, k, s.extract k i, 0⟩, 0) by unfold nameT; rw [if_pos hone])
            generalize wordL.getD j ByteArray.empty = x at *
            have HXE := Lib.hid hxe
            have hq2 : (x.toList == (s.extract k i).toList) = true := by rw [Bool.beq_comm]; exact hq
            clear hq hone hxe
            go_wp2_with fail
            refine bodyPost_ret (v := .tuple #[tokV 3 k x 0, .int .i64 i, .int .i64 0]) (by simp [results, Tryd.results48, go_sem, c0, c1, c2, c3]) rfl ⟨(((HB0.out.setCell (by simp) _).setCell (by simp) _).setCell (by simp) _).setCell (by simp) _, ?_⟩
            rw [HN.out]
            exact ⟨⟨3, k, x, 0⟩, _, rfl, fun _ => ⟨by rw [← HXE.out], by show (i : Int) = ((k + (s.extract k i).size : Nat) : Int); rw [HSZ.out]; omega⟩⟩
        · have hj25 : j = 25 := by omega
          subst hj25
          have hone : isOne wordL (s.extract k i) = false := HJ.out.symm.trans rfl
          by_cases hbig : (30 : Int) < (i : Int) - (k : Int)
          · have HN := Lib.hid (show nameT k (s.extract k i) = (Tk.zero, 3) by unfold nameT; rw [if_neg (by rw [hone]; exact Bool.false_ne_true), if_pos (by rw [HSZ.out]; omega)])
            clear hone
            go_wp2_with fail
            refine bodyPost_ret (v := .tuple #[tokV 0 0 ⟨#[]⟩ 0, .int .i64 i, .int .i64 3]) (by simp [results, Tryd.results48, go_sem, c0, c1, c2, c3]) rfl ⟨(((HB0.out.setCell (by simp) _).setCell (by simp) _).setCell (by simp) _).setCell (by simp) _, ?_⟩
            rw [HN.out]
            exact ⟨Tk.zero, _, rfl, fun h => by cases h⟩
          · have HN := Lib.hid (show nameT k (s.extract k i) = (⟨1, k, s.extract k i, 0⟩, 0) by unfold nameT; rw [if_neg (by rw [hone]; exact Bool.false_ne_true), if_neg (by rw [HSZ.out]; omega)])
            clear hone
            go_wp2_with fail
            refine bodyPost_ret (v := .tuple #[tokV 1 k (s.extract k i) 0, .int .i64 i, .int .i64 0]) (by simp [results, Tryd.results48, go_sem, c0, c1, c2, c3]) rfl ⟨(((HB0.out.setCell (by simp) _).setCell (by simp) _).setCell (by simp) _).setCell (by simp) _, ?_⟩
            rw [HN.out]
            exact ⟨⟨1, k, s.extract k i, 0⟩, _, rfl, fun _ => ⟨rfl, by show (i : Int) = ((k + (s.extract k i).size : Nat) : Int); rw [HSZ.out]; omega⟩⟩
end Go.Proofs.YthhkjjdhecpmlaaDoor
