/-
  The reference of layer 2: binds.
-/
import Derived.Test.YthhkjjdhecpmlaaDoorTrA
namespace Go.Proofs.YthhkjjdhecpmlaaDoor
open Go.RowKit
set_option linter.unusedVariables false
set_option linter.unusedSimpArgs false
set_option maxHeartbeats 2000000 in
set_option maxRecDepth 20000 in
theorem rbinds_sign (a n : Int) (nm : ByteArray) (off : Bool) (s : Value) (w : World) :
    Calls Tryd.prog 61 #[exVal 6 a n nm off s] w fun e w' => e = .returned (.int .i64 (signB nm)) ∧ Below w.heap.size w w' := by
  by_cases h1 : (nm.toList == [111, 114]) = true
  · have : signB nm = 2 := by unfold signB; rw [if_pos h1]
    have H := Lib.hid this; clear this
    go_enter Tryd.func61, Tryd.ntmps61; go_wp2; go_ret
    rw [H.out]; exact ⟨rfl, ((Below.refl _ _).alloc (Nat.le_refl _) _).alloc (by simp) _⟩
  have h1' : (nm.toList == [111, 114]) = false := by simpa using h1
  by_cases h2 : (nm.toList == [120, 111, 114]) = true
  · have : signB nm = 2 := by unfold signB; rw [if_neg h1, if_pos h2]
    have H := Lib.hid this; clear this h1
    go_enter Tryd.func61, Tryd.ntmps61; go_wp2; go_ret
    rw [H.out]; exact ⟨rfl, ((Below.refl _ _).alloc (Nat.le_refl _) _).alloc (by simp) _⟩
  have h2' : (nm.toList == [120, 111, 114]) = false := by simpa using h2
  by_cases h3 : (nm.toList == [97, 110, 100]) = true
  · have : signB nm = 3 := by unfold signB; rw [if_neg h1, if_neg h2, if_pos h3]
    have H := Lib.hid this; clear this h1 h2
    go_enter Tryd.func61, Tryd.ntmps61; go_wp2; go_ret
    rw [H.out]; exact ⟨rfl, ((Below.refl _ _).alloc (Nat.le_refl _) _).alloc (by simp) _⟩
  have h3' : (nm.toList == [97, 110, 100]) = false := by simpa using h3
  by_cases h4 : (nm.toList == [43]) = true
  · have : signB nm = 6 := by unfold signB; rw [if_neg h1, if_neg h2, if_neg h3, if_pos h4]
    have e : nm.toList = [43] := by simpa using h4
    have g6 : (nm.toList == [42]) = false := by rw [e]; rfl
    have g7 : (nm.toList == [47]) = false := by rw [e]; rfl
    have g8 : (nm.toList == [109, 111, 100]) = false := by rw [e]; rfl
    have H := Lib.hid this; clear this h1 h2 h3 e
    go_enter Tryd.func61, Tryd.ntmps61; go_wp2; go_ret
    rw [H.out]; exact ⟨rfl, ((Below.refl _ _).alloc (Nat.le_refl _) _).alloc (by simp) _⟩
  have h4' : (nm.toList == [43]) = false := by simpa using h4
  by_cases h5 : (nm.toList == [45]) = true
  · have : signB nm = 6 := by unfold signB; rw [if_neg h1, if_neg h2, if_neg h3, if_neg h4, if_pos h5]
    have e : nm.toList = [45] := by simpa using h5
    have g6 : (nm.toList == [42]) = false := by rw [e]; rfl
    have g7 : (nm.toList == [47]) = false := by rw [e]; rfl
    have g8 : (nm.toList == [109, 111, 100]) = false := by rw [e]; rfl
    have H := Lib.hid this; clear this h1 h2 h3 h4 e
    go_enter Tryd.func61, Tryd.ntmps61; go_wp2; go_ret
    rw [H.out]; exact ⟨rfl, ((Below.refl _ _).alloc (Nat.le_refl _) _).alloc (by simp) _⟩
  have h5' : (nm.toList == [45]) = false := by simpa using h5
  by_cases h6 : (nm.toList == [42]) = true
  · have : signB nm = 7 := by unfold signB; rw [if_neg h1, if_neg h2, if_neg h3, if_neg h4, if_neg h5, if_pos h6]
    have H := Lib.hid this; clear this h1 h2 h3 h4 h5
    go_enter Tryd.func61, Tryd.ntmps61; go_wp2; go_ret
    rw [H.out]; exact ⟨rfl, ((Below.refl _ _).alloc (Nat.le_refl _) _).alloc (by simp) _⟩
  have h6' : (nm.toList == [42]) = false := by simpa using h6
  by_cases h7 : (nm.toList == [47]) = true
  · have : signB nm = 7 := by unfold signB; rw [if_neg h1, if_neg h2, if_neg h3, if_neg h4, if_neg h5, if_neg h6, if_pos h7]
    have H := Lib.hid this; clear this h1 h2 h3 h4 h5 h6
    go_enter Tryd.func61, Tryd.ntmps61; go_wp2; go_ret
    rw [H.out]; exact ⟨rfl, ((Below.refl _ _).alloc (Nat.le_refl _) _).alloc (by simp) _⟩
  have h7' : (nm.toList == [47]) = false := by simpa using h7
  by_cases h8 : (nm.toList == [109, 111, 100]) = true
  · have : signB nm = 7 := by unfold signB; rw [if_neg h1, if_neg h2, if_neg h3, if_neg h4, if_neg h5, if_neg h6, if_neg h7, if_pos h8]
    have H := Lib.hid this; clear this h1 h2 h3 h4 h5 h6 h7
    go_enter Tryd.func61, Tryd.ntmps61; go_wp2; go_ret
    rw [H.out]; exact ⟨rfl, ((Below.refl _ _).alloc (Nat.le_refl _) _).alloc (by simp) _⟩
  have h8' : (nm.toList == [109, 111, 100]) = false := by simpa using h8
  have : signB nm = 5 := by unfold signB; rw [if_neg h1, if_neg h2, if_neg h3, if_neg h4, if_neg h5, if_neg h6, if_neg h7, if_neg h8]
  have H := Lib.hid this; clear this h1 h2 h3 h4 h5 h6 h7 h8
  go_enter Tryd.func61, Tryd.ntmps61; go_wp2; go_ret
  rw [H.out]; exact ⟨rfl, ((Below.refl _ _).alloc (Nat.le_refl _) _).alloc (by simp) _⟩
set_option maxHeartbeats 2000000 in
set_option maxRecDepth 20000 in
theorem rbinds_any (k a n : Int) (nm : ByteArray) (off : Bool) (s : Value) (w : World) (hk : 1 ≤ k ∧ k ≤ 14) :
    Calls Tryd.prog 61 #[exVal k a n nm off s] w fun e w' => e = .returned (.int .i64 (bnd k n nm)) ∧ Below w.heap.size w w' := by
  have hk' : k = 1 ∨ k = 2 ∨ k = 3 ∨ k = 4 ∨ k = 5 ∨ k = 6 ∨ k = 7 ∨ k = 8 ∨ k = 9 ∨ k = 10 ∨ k = 11 ∨ k = 12 ∨ k = 13 ∨ k = 14 := by omega
  clear hk
  rcases hk' with rfl | rfl | rfl | rfl | rfl | rfl | rfl | rfl | rfl | rfl | rfl | rfl | rfl | rfl
  · by_cases hn : n < 0
    · have : bnd 1 n nm = 8 := by simp [bnd, hn]
      have H := Lib.hid this; clear this
      go_enter Tryd.func61, Tryd.ntmps61; go_wp2; go_ret
      rw [H.out]; exact ⟨rfl, ((Below.refl _ _).alloc (Nat.le_refl _) _).alloc (by simp) _⟩
    · have : bnd 1 n nm = 10 := by simp [bnd, hn]
      have H := Lib.hid this; clear this
      go_enter Tryd.func61, Tryd.ntmps61; go_wp2; go_ret
      rw [H.out]; exact ⟨rfl, ((Below.refl _ _).alloc (Nat.le_refl _) _).alloc (by simp) _⟩
  case inr.inr.inr.inr.inr.inl =>
    have : bnd 6 n nm = signB nm := by simp [bnd]
    rw [this]
    exact rbinds_sign a n nm off s w
  all_goals
    go_enter Tryd.func61, Tryd.ntmps61; go_wp2; go_ret
    exact ⟨rfl, ((Below.refl _ _).alloc (Nat.le_refl _) _).alloc (by simp) _⟩
end Go.Proofs.YthhkjjdhecpmlaaDoor
