/-
  Package girandoleref01: skip.
-/
import Derived.Test.YthhkjjdhecpmlaaDoorRfA
namespace Go.Proofs.YthhkjjdhecpmlaaDoor
open Go.RowKit
theorem rem_eq (s : ByteArray) (j : Nat) : rem s j = if j + 2 ≤ s.size then ((s.extract j (j + 2)).toList == [45, 45]) else false := by
  unfold rem pre
  by_cases h : j + 2 ≤ s.size
  · rw [if_pos h, if_pos (by rw [extract_size' (by omega) (Nat.le_refl _)]; show 2 ≤ _; omega)]
    have e : (s.extract j s.size).extract 0 (ByteArray.mk #[45, 45]).size = s.extract j (j + 2) := by
      apply bytes_ext
      have e : s.data.toList.length = s.size := rfl
      have e2 : (ByteArray.mk #[45, 45]).size = 2 := rfl
      rw [e2]
      simp
      omega
    rw [e, ByteArray.toList_eq (ByteArray.mk #[45, 45])]
  · rw [if_neg h]
    by_cases h2 : j ≤ s.size
    · rw [if_neg (by rw [extract_size' h2 (Nat.le_refl _)]; show ¬ 2 ≤ _; omega)]
    · rw [if_neg (by simp; show _ < 2; omega)]
theorem skipN_blank {s : ByteArray} {j : Nat} (hj : j < s.size) (h : bBlank s[j] = true) : skipN s j = skipN s (j + 1) := by
  have e := beh_step hj h
  cases hr : rem s (beh bBlank s j)
  · rw [skipN_stop (by omega) hr, skipN_stop (by omega) (by rw [← e]; exact hr), e]
  · rw [skipN_rem (by omega) hr, skipN_rem (k := j + 1) (by omega) (by rw [← e]; exact hr), e]
theorem skipN_rem' {s : ByteArray} {j : Nat} (hj : j < s.size) (h : bBlank s[j] = false) (hr : rem s j = true) : skipN s j = skipN s (beh bLine s j) := by
  have e := beh_stop hj h
  rw [skipN_rem (by omega) (by rw [e]; exact hr), e]
theorem skipN_stop' {s : ByteArray} {j : Nat} (hj : j < s.size) (h : bBlank s[j] = false) (hr : rem s j = false) : skipN s j = j := by
  have e := beh_stop hj h
  rw [skipN_stop (by omega) (by rw [e]; exact hr), e]
theorem skipN_end {s : ByteArray} : skipN s s.size = s.size := by
  have := skipN_ge (s := s) (k := s.size) (Nat.le_refl _)
  omega
theorem cls_blank (b : UInt8) : (cls b == 3) = bBlank b := by
  unfold cls
  have h1 := bLetter_iff b
  have h2 := bDigit_iff b
  have h3 := bBlank_iff b
  split
  · rename_i h
    cases hb : bBlank b
    · rfl
    · rw [h1] at h; rw [h3] at hb; omega
  · split
    · rename_i h
      cases hb : bBlank b
      · rfl
      · rw [h2] at h; rw [h3] at hb; omega
    · split
      · rename_i h; rw [h]; rfl
      · rename_i h; simp only [Bool.not_eq_true] at h; rw [h]; rfl

set_option maxHeartbeats 2000000 in
set_option maxRecDepth 20000 in
theorem refSkip_any (s : ByteArray) (k : Nat) (w : World) (hs : s.size ≤ 100000) (hk : k ≤ s.size) :
    Calls Tryd.prog 47 #[.string s, .int .i64 k] w fun e w' => e = .returned (.int .i64 (skipN s k)) ∧ w = w' := by
  go_enter Tryd.func47, Tryd.ntmps47
  go_wp2_with fail
  go_loop [1] (fun t => ∃ j : Nat, j ≤ s.size ∧ t = .int .i64 j ∧ Hid (skipN s j = skipN s k)) (fun t => s.size - (intOf t).toNat)
  case atStart => exact ⟨k, hk, rfl, Lib.hid rfl⟩
  case round =>
    obtain ⟨j, hj, rfl, HJ⟩ := hrel
    by_cases hlt : j < s.size
    · obtain ⟨c, hc⟩ : ∃ c, s[j] = c := ⟨_, rfl⟩
      cases hb : bBlank c
      · have hcl : (cls c == 3) = false := by rw [cls_blank, hb]
        cases hr : rem s j
        · have HST := Lib.hid ((skipN_stop' hlt (by rw [hc]; exact hb) hr).symm.trans HJ.out)
          rw [rem_eq] at hr
          clear hb
          by_cases h2 : j + 2 ≤ s.size
          · rw [if_pos h2] at hr
            go_wp2_with fail
            refine (class_any c _).mono ?_
            rintro x w' ⟨rfl, rfl⟩
            go_wp2_with fail
            go_ret
            exact ⟨by rw [← HST.out]; rfl, rfl⟩
          · clear hr
            go_wp2_with fail
            refine (class_any c _).mono ?_
            rintro x w' ⟨rfl, rfl⟩
            go_wp2_with fail
            go_ret
            exact ⟨by rw [← HST.out]; rfl, rfl⟩
        · have HST := Lib.hid ((skipN_rem' hlt (by rw [hc]; exact hb) hr).symm.trans HJ.out)
          have hfar := line_far hr
          rw [rem_eq] at hr
          clear hb
          have h2 : j + 2 ≤ s.size := by
            by_cases h2 : j + 2 ≤ s.size
            · exact h2
            · rw [if_neg h2] at hr; cases hr
          rw [if_pos h2] at hr
          have HF := Lib.hid hfar; clear hfar
          go_wp2_with fail
          refine (class_any c _).mono ?_
          rintro x w' ⟨rfl, rfl⟩
          have HR := Lib.hid hr; clear hr
          have hr2 := HR.out
          go_wp2_with fail
          clear hr2 hc hcl
          go_loop [1] (fun t => ∃ i : Nat, j ≤ i ∧ i ≤ s.size ∧ t = .int .i64 i ∧ Hid (beh bLine s i = beh bLine s j)) (fun t => s.size - (intOf t).toNat)
          case atStart => exact ⟨j, Nat.le_refl _, by omega, rfl, Lib.hid rfl⟩
          case round =>
            obtain ⟨i, hi1, hi2, rfl, HI⟩ := hrel
            by_cases hlt2 : i < s.size
            · obtain ⟨d, hd⟩ : ∃ d, s[i] = d := ⟨_, rfl⟩
              cases hl : bLine d
              · have hst := beh_stop hlt2 (show bLine s[i] = false by rw [hd]; exact hl)
                have e : i = beh bLine s j := hst.symm.trans HI.out
                have HST2 := Lib.hid (show skipN s i = skipN s k by rw [e]; exact HST.out)
                have hgt : j < i := by have := HF.out; omega
                have f1 : ((d.toNat : Int) != 10) = false := by
                  simp only [bLine, bne_eq_false_iff_eq] at hl
                  subst hl; rfl
                clear hl hst e
                go_wp2_with fail
                go_round
                case rel => exact ⟨i, hi2, rfl, HST2⟩
                case measure => simp [intOf]; omega
              · have hst := beh_step hlt2 (show bLine s[i] = true by rw [hd]; exact hl)
                have HI2 := Lib.hid (hst.symm.trans HI.out)
                have f1 : ((d.toNat : Int) != 10) = true := by
                  simp only [bLine, bne_iff_ne] at hl
                  rw [bne_iff_ne]; intro h; exact hl (UInt8.toNat_inj.1 (by show d.toNat = 10; omega))
                clear hl hst
                go_wp2_with fail
                go_round
                case rel => exact ⟨i + 1, by omega, by omega, by go_num, HI2⟩
                case measure => simp [intOf]; omega
            · have hst := beh_end (p := bLine) (s := s) (k := i) (by omega)
              have e : i = beh bLine s j := hst.symm.trans HI.out
              have HST2 := Lib.hid (show skipN s i = skipN s k by rw [e]; exact HST.out)
              have hgt : j < i := by have := HF.out; omega
              clear hst e
              go_wp2_with fail
              go_round
              case rel => exact ⟨i, hi2, rfl, HST2⟩
              case measure => simp [intOf]; omega
      · have hcl : (cls c == 3) = true := by rw [cls_blank, hb]
        have HST := Lib.hid ((skipN_blank hlt (by rw [hc]; exact hb)).symm.trans HJ.out)
        clear hb
        go_wp2_with fail
        refine (class_any c _).mono ?_
        rintro x w' ⟨rfl, rfl⟩
        go_wp2_with fail
        go_round
        case rel => exact ⟨j + 1, by omega, by go_num, HST⟩
        case measure => simp [intOf]; omega
    · have hj2 : j = s.size := by omega
      have HST := Lib.hid ((show s.size = skipN s k from by rw [← skipN_end (s := s), ← hj2]; exact HJ.out))
      clear hlt
      go_wp2_with fail
      go_ret
      exact ⟨by rw [← HST.out]; rfl, rfl⟩
end Go.Proofs.YthhkjjdhecpmlaaDoor
