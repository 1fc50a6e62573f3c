/-
  Package lex: behind, by a loop over a string with a function value.
-/
import Derived.Test.YthhkjjdhecpmlaaDoorLxA
namespace Go.Proofs.YthhkjjdhecpmlaaDoor
open Go.RowKit
set_option linter.unusedVariables false
set_option linter.unusedSimpArgs false

/-- The place behind as many bytes as belong. -/
def beh (p : UInt8 → Bool) (s : ByteArray) (k : Nat) : Nat := k + ((s.data.toList.drop k).takeWhile p).length

theorem beh_step {p : UInt8 → Bool} {s : ByteArray} {k : Nat} (h : k < s.size) (hp : p s[k] = true) : beh p s k = beh p s (k + 1) := by
  unfold beh
  rw [List.drop_eq_getElem_cons (by simpa using h), List.takeWhile_cons, if_pos (show p s.data.toList[k] = true from hp)]
  simp; omega
theorem beh_stop {p : UInt8 → Bool} {s : ByteArray} {k : Nat} (h : k < s.size) (hp : p s[k] = false) : beh p s k = k := by
  unfold beh
  rw [List.drop_eq_getElem_cons (by simpa using h), List.takeWhile_cons, if_neg (show ¬ p s.data.toList[k] = true from by rw [show p s.data.toList[k] = false from hp]; exact Bool.false_ne_true)]
  simp
theorem beh_end {p : UInt8 → Bool} {s : ByteArray} {k : Nat} (h : s.size ≤ k) : beh p s k = k := by
  unfold beh
  rw [List.drop_eq_nil_of_le (by simpa using h)]
  simp
theorem beh_le {p : UInt8 → Bool} {s : ByteArray} {k : Nat} : k ≤ beh p s k := by unfold beh; omega
theorem beh_size {p : UInt8 → Bool} {s : ByteArray} {k : Nat} (h : k ≤ s.size) : beh p s k ≤ s.size := by
  unfold beh
  have := (List.takeWhile_sublist p (l := s.data.toList.drop k)).length_le
  simp at this
  have e : s.data.size = s.size := rfl
  omega

set_option maxHeartbeats 400000 in
set_option maxRecDepth 20000 in
theorem behind_blank (s : ByteArray) (k : Nat) (w : World) (hs : s.size ≤ 100000) (hk : k ≤ s.size) :
    Calls Tryd.prog 72 #[.string s, .int .i64 k, .func (.func 73) #[] #[]] w fun e w' => e = .returned (.int .i64 (beh bBlank s k)) ∧ w = w' := by
  have hk0 := hk
  go_enter Tryd.func72, Tryd.ntmps72
  go_wp2_with fail
  go_loop [1] (fun t => ∃ j : Nat, j ≤ s.size ∧ t = .int .i64 j ∧ Hid (beh bBlank s j = beh bBlank s k)) (fun t => s.size - (intOf t).toNat)
  case atStart => exact ⟨k, hk, rfl, Lib.hid rfl⟩
  case round =>
    obtain ⟨j, hj, rfl, HJ⟩ := hrel
    by_cases hlt : j < s.size
    · go_wp2_with fail
      refine (blank_any s[j] _).mono ?_
      rintro e w' ⟨rfl, rfl⟩
      cases hp : bBlank s[j]
      · have e := beh_stop hlt hp
        have H := Lib.hid (e.symm.trans HJ.out); clear e hp
        go_wp2_with fail
        go_ret
        exact ⟨by rw [← H.out]; rfl, rfl⟩
      · have e := beh_step hlt hp
        have H := Lib.hid (e.symm.trans HJ.out); clear e hp
        go_wp2_with fail
        go_round
        case rel => exact ⟨j + 1, by omega, by go_num, H⟩
        case measure => simp [intOf]; omega
    · have e := beh_end (p := bBlank) (s := s) (k := j) (by omega)
      have H := Lib.hid (e.symm.trans HJ.out); clear e
      go_wp2_with fail
      go_ret
      exact ⟨by rw [← H.out]; rfl, rfl⟩
set_option maxHeartbeats 400000 in
set_option maxRecDepth 20000 in
theorem behind_line (s : ByteArray) (k : Nat) (w : World) (hs : s.size ≤ 100000) (hk : k ≤ s.size) :
    Calls Tryd.prog 72 #[.string s, .int .i64 k, .func (.func 75) #[] #[]] w fun e w' => e = .returned (.int .i64 (beh bLine s k)) ∧ w = w' := by
  have hk0 := hk
  go_enter Tryd.func72, Tryd.ntmps72
  go_wp2_with fail
  go_loop [1] (fun t => ∃ j : Nat, j ≤ s.size ∧ t = .int .i64 j ∧ Hid (beh bLine s j = beh bLine s k)) (fun t => s.size - (intOf t).toNat)
  case atStart => exact ⟨k, hk, rfl, Lib.hid rfl⟩
  case round =>
    obtain ⟨j, hj, rfl, HJ⟩ := hrel
    by_cases hlt : j < s.size
    · go_wp2_with fail
      refine (line_any s[j] _).mono ?_
      rintro e w' ⟨rfl, rfl⟩
      cases hp : bLine s[j]
      · have e := beh_stop hlt hp
        have H := Lib.hid (e.symm.trans HJ.out); clear e hp
        go_wp2_with fail
        go_ret
        exact ⟨by rw [← H.out]; rfl, rfl⟩
      · have e := beh_step hlt hp
        have H := Lib.hid (e.symm.trans HJ.out); clear e hp
        go_wp2_with fail
        go_round
        case rel => exact ⟨j + 1, by omega, by go_num, H⟩
        case measure => simp [intOf]; omega
    · have e := beh_end (p := bLine) (s := s) (k := j) (by omega)
      have H := Lib.hid (e.symm.trans HJ.out); clear e
      go_wp2_with fail
      go_ret
      exact ⟨by rw [← H.out]; rfl, rfl⟩
set_option maxHeartbeats 400000 in
set_option maxRecDepth 20000 in
theorem behind_digit (s : ByteArray) (k : Nat) (w : World) (hs : s.size ≤ 100000) (hk : k ≤ s.size) :
    Calls Tryd.prog 72 #[.string s, .int .i64 k, .func (.func 78) #[] #[]] w fun e w' => e = .returned (.int .i64 (beh bDigit s k)) ∧ w = w' := by
  have hk0 := hk
  go_enter Tryd.func72, Tryd.ntmps72
  go_wp2_with fail
  go_loop [1] (fun t => ∃ j : Nat, j ≤ s.size ∧ t = .int .i64 j ∧ Hid (beh bDigit s j = beh bDigit s k)) (fun t => s.size - (intOf t).toNat)
  case atStart => exact ⟨k, hk, rfl, Lib.hid rfl⟩
  case round =>
    obtain ⟨j, hj, rfl, HJ⟩ := hrel
    by_cases hlt : j < s.size
    · go_wp2_with fail
      refine (digit_any s[j] _).mono ?_
      rintro e w' ⟨rfl, rfl⟩
      cases hp : bDigit s[j]
      · have e := beh_stop hlt hp
        have H := Lib.hid (e.symm.trans HJ.out); clear e hp
        go_wp2_with fail
        go_ret
        exact ⟨by rw [← H.out]; rfl, rfl⟩
      · have e := beh_step hlt hp
        have H := Lib.hid (e.symm.trans HJ.out); clear e hp
        go_wp2_with fail
        go_round
        case rel => exact ⟨j + 1, by omega, by go_num, H⟩
        case measure => simp [intOf]; omega
    · have e := beh_end (p := bDigit) (s := s) (k := j) (by omega)
      have H := Lib.hid (e.symm.trans HJ.out); clear e
      go_wp2_with fail
      go_ret
      exact ⟨by rw [← H.out]; rfl, rfl⟩
set_option maxHeartbeats 400000 in
set_option maxRecDepth 20000 in
theorem behind_name (s : ByteArray) (k : Nat) (w : World) (hs : s.size ≤ 100000) (hk : k ≤ s.size) :
    Calls Tryd.prog 72 #[.string s, .int .i64 k, .func (.func 96) #[] #[]] w fun e w' => e = .returned (.int .i64 (beh bName s k)) ∧ w = w' := by
  have hk0 := hk
  go_enter Tryd.func72, Tryd.ntmps72
  go_wp2_with fail
  go_loop [1] (fun t => ∃ j : Nat, j ≤ s.size ∧ t = .int .i64 j ∧ Hid (beh bName s j = beh bName s k)) (fun t => s.size - (intOf t).toNat)
  case atStart => exact ⟨k, hk, rfl, Lib.hid rfl⟩
  case round =>
    obtain ⟨j, hj, rfl, HJ⟩ := hrel
    by_cases hlt : j < s.size
    · go_wp2_with fail
      refine (name_any s[j] _).mono ?_
      rintro e w' ⟨rfl, rfl⟩
      cases hp : bName s[j]
      · have e := beh_stop hlt hp
        have H := Lib.hid (e.symm.trans HJ.out); clear e hp
        go_wp2_with fail
        go_ret
        exact ⟨by rw [← H.out]; rfl, rfl⟩
      · have e := beh_step hlt hp
        have H := Lib.hid (e.symm.trans HJ.out); clear e hp
        go_wp2_with fail
        go_round
        case rel => exact ⟨j + 1, by omega, by go_num, H⟩
        case measure => simp [intOf]; omega
    · have e := beh_end (p := bName) (s := s) (k := j) (by omega)
      have H := Lib.hid (e.symm.trans HJ.out); clear e
      go_wp2_with fail
      go_ret
      exact ⟨by rw [← H.out]; rfl, rfl⟩
end Go.Proofs.YthhkjjdhecpmlaaDoor
