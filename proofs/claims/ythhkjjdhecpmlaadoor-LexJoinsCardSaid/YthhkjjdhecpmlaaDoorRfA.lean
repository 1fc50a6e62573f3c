/-
  Package girandoleref01: class.
-/
import Derived.Test.YthhkjjdhecpmlaaDoorLxK
namespace Go.Proofs.YthhkjjdhecpmlaaDoor
open Go.RowKit
/-- What kind of byte. -/
def cls (b : UInt8) : Int := if bLetter b = true then 1 else if bDigit b = true then 2 else if bBlank b = true then 3 else 0
theorem bBlank_iff (b : UInt8) : bBlank b = true ↔ b.toNat = 32 ∨ b.toNat = 9 ∨ b.toNat = 10 := by
  have h (x : UInt8) : b = x ↔ b.toNat = x.toNat := ⟨fun h => by subst h; rfl, fun h => UInt8.toNat_inj.1 h⟩
  simp only [bBlank, Bool.or_eq_true, beq_iff_eq, h, or_assoc]
  exact Iff.rfl
theorem cls_one {b : UInt8} (h : (65 ≤ b.toNat ∧ b.toNat ≤ 90) ∨ (97 ≤ b.toNat ∧ b.toNat ≤ 122) ∨ b.toNat = 95) : cls b = 1 := by
  unfold cls; rw [if_pos ((bLetter_iff b).2 h)]
theorem cls_two {b : UInt8} (h : 48 ≤ b.toNat ∧ b.toNat ≤ 57) : cls b = 2 := by
  unfold cls; rw [if_neg (by rw [bLetter_iff]; omega), if_pos ((bDigit_iff b).2 h)]
theorem cls_three {b : UInt8} (h : b.toNat = 32 ∨ b.toNat = 9 ∨ b.toNat = 10) : cls b = 3 := by
  unfold cls; rw [if_neg (by rw [bLetter_iff]; omega), if_neg (by rw [bDigit_iff]; omega), if_pos ((bBlank_iff b).2 h)]
theorem cls_none {b : UInt8} (h1 : ¬ ((65 ≤ b.toNat ∧ b.toNat ≤ 90) ∨ (97 ≤ b.toNat ∧ b.toNat ≤ 122) ∨ b.toNat = 95)) (h2 : ¬ (48 ≤ b.toNat ∧ b.toNat ≤ 57)) (h3 : ¬ (b.toNat = 32 ∨ b.toNat = 9 ∨ b.toNat = 10)) : cls b = 0 := by
  unfold cls; rw [if_neg (by rw [bLetter_iff]; exact h1), if_neg (by rw [bDigit_iff]; exact h2), if_neg (by rw [bBlank_iff]; exact h3)]
set_option maxHeartbeats 2000000 in
set_option maxRecDepth 20000 in
theorem class_any (b : UInt8) (w : World) :
    Calls Tryd.prog 81 #[.int .u8 b.toNat] w fun e w' => e = .returned (.int .i64 (cls b)) ∧ w = w' := by
  have hb : (b.toNat : Int) < 256 := by have := b.toNat_lt; omega
  have hc : ((0 : Int) ≤ b.toNat ∧ (b.toNat : Int) ≤ 8) ∨ ((9 : Int) ≤ b.toNat ∧ (b.toNat : Int) ≤ 9) ∨ ((10 : Int) ≤ b.toNat ∧ (b.toNat : Int) ≤ 10) ∨ ((11 : Int) ≤ b.toNat ∧ (b.toNat : Int) ≤ 31) ∨ ((32 : Int) ≤ b.toNat ∧ (b.toNat : Int) ≤ 32) ∨ ((33 : Int) ≤ b.toNat ∧ (b.toNat : Int) ≤ 47) ∨ ((48 : Int) ≤ b.toNat ∧ (b.toNat : Int) ≤ 57) ∨ ((58 : Int) ≤ b.toNat ∧ (b.toNat : Int) ≤ 64) ∨ ((65 : Int) ≤ b.toNat ∧ (b.toNat : Int) ≤ 90) ∨ ((91 : Int) ≤ b.toNat ∧ (b.toNat : Int) ≤ 94) ∨ ((95 : Int) ≤ b.toNat ∧ (b.toNat : Int) ≤ 95) ∨ ((96 : Int) ≤ b.toNat ∧ (b.toNat : Int) ≤ 96) ∨ ((97 : Int) ≤ b.toNat ∧ (b.toNat : Int) ≤ 122) ∨ ((123 : Int) ≤ b.toNat ∧ (b.toNat : Int) ≤ 255) := by omega
  clear hb
  rcases hc with ⟨h1, h2⟩ | ⟨h1, h2⟩ | ⟨h1, h2⟩ | ⟨h1, h2⟩ | ⟨h1, h2⟩ | ⟨h1, h2⟩ | ⟨h1, h2⟩ | ⟨h1, h2⟩ | ⟨h1, h2⟩ | ⟨h1, h2⟩ | ⟨h1, h2⟩ | ⟨h1, h2⟩ | ⟨h1, h2⟩ | ⟨h1, h2⟩
  · have H := Lib.hid (show cls b = 0 from cls_none (by omega) (by omega) (by omega))
    have f95 : ((b.toNat : Int) == 95) = false := by rw [beq_eq_false_iff_ne]; omega
    have f32 : ((b.toNat : Int) == 32) = false := by rw [beq_eq_false_iff_ne]; omega
    have f9 : ((b.toNat : Int) == 9) = false := by rw [beq_eq_false_iff_ne]; omega
    have f10 : ((b.toNat : Int) == 10) = false := by rw [beq_eq_false_iff_ne]; omega
    go_enter Tryd.func81, Tryd.ntmps81; go_wp2; go_ret
    rw [H.out]; exact ⟨rfl, rfl⟩
  · have H := Lib.hid (show cls b = 3 from cls_three (by omega))
    have f95 : ((b.toNat : Int) == 95) = false := by rw [beq_eq_false_iff_ne]; omega
    have f32 : ((b.toNat : Int) == 32) = false := by rw [beq_eq_false_iff_ne]; omega
    have f9 : ((b.toNat : Int) == 9) = true := by rw [beq_iff_eq]; omega
    have f10 : ((b.toNat : Int) == 10) = false := by rw [beq_eq_false_iff_ne]; omega
    go_enter Tryd.func81, Tryd.ntmps81; go_wp2; go_ret
    rw [H.out]; exact ⟨rfl, rfl⟩
  · have H := Lib.hid (show cls b = 3 from cls_three (by omega))
    have f95 : ((b.toNat : Int) == 95) = false := by rw [beq_eq_false_iff_ne]; omega
    have f32 : ((b.toNat : Int) == 32) = false := by rw [beq_eq_false_iff_ne]; omega
    have f9 : ((b.toNat : Int) == 9) = false := by rw [beq_eq_false_iff_ne]; omega
    have f10 : ((b.toNat : Int) == 10) = true := by rw [beq_iff_eq]; omega
    go_enter Tryd.func81, Tryd.ntmps81; go_wp2; go_ret
    rw [H.out]; exact ⟨rfl, rfl⟩
  · have H := Lib.hid (show cls b = 0 from cls_none (by omega) (by omega) (by omega))
    have f95 : ((b.toNat : Int) == 95) = false := by rw [beq_eq_false_iff_ne]; omega
    have f32 : ((b.toNat : Int) == 32) = false := by rw [beq_eq_false_iff_ne]; omega
    have f9 : ((b.toNat : Int) == 9) = false := by rw [beq_eq_false_iff_ne]; omega
    have f10 : ((b.toNat : Int) == 10) = false := by rw [beq_eq_false_iff_ne]; omega
    go_enter Tryd.func81, Tryd.ntmps81; go_wp2; go_ret
    rw [H.out]; exact ⟨rfl, rfl⟩
  · have H := Lib.hid (show cls b = 3 from cls_three (by omega))
    have f95 : ((b.toNat : Int) == 95) = false := by rw [beq_eq_false_iff_ne]; omega
    have f32 : ((b.toNat : Int) == 32) = true := by rw [beq_iff_eq]; omega
    have f9 : ((b.toNat : Int) == 9) = false := by rw [beq_eq_false_iff_ne]; omega
    have f10 : ((b.toNat : Int) == 10) = false := by rw [beq_eq_false_iff_ne]; omega
    go_enter Tryd.func81, Tryd.ntmps81; go_wp2; go_ret
    rw [H.out]; exact ⟨rfl, rfl⟩
  · have H := Lib.hid (show cls b = 0 from cls_none (by omega) (by omega) (by omega))
    have f95 : ((b.toNat : Int) == 95) = false := by rw [beq_eq_false_iff_ne]; omega
    have f32 : ((b.toNat : Int) == 32) = false := by rw [beq_eq_false_iff_ne]; omega
    have f9 : ((b.toNat : Int) == 9) = false := by rw [beq_eq_false_iff_ne]; omega
    have f10 : ((b.toNat : Int) == 10) = false := by rw [beq_eq_false_iff_ne]; omega
    go_enter Tryd.func81, Tryd.ntmps81; go_wp2; go_ret
    rw [H.out]; exact ⟨rfl, rfl⟩
  · have H := Lib.hid (show cls b = 2 from cls_two (by omega))
    have f95 : ((b.toNat : Int) == 95) = false := by rw [beq_eq_false_iff_ne]; omega
    have f32 : ((b.toNat : Int) == 32) = false := by rw [beq_eq_false_iff_ne]; omega
    have f9 : ((b.toNat : Int) == 9) = false := by rw [beq_eq_false_iff_ne]; omega
    have f10 : ((b.toNat : Int) == 10) = false := by rw [beq_eq_false_iff_ne]; omega
    go_enter Tryd.func81, Tryd.ntmps81; go_wp2; go_ret
    rw [H.out]; exact ⟨rfl, rfl⟩
  · have H := Lib.hid (show cls b = 0 from cls_none (by omega) (by omega) (by omega))
    have f95 : ((b.toNat : Int) == 95) = false := by rw [beq_eq_false_iff_ne]; omega
    have f32 : ((b.toNat : Int) == 32) = false := by rw [beq_eq_false_iff_ne]; omega
    have f9 : ((b.toNat : Int) == 9) = false := by rw [beq_eq_false_iff_ne]; omega
    have f10 : ((b.toNat : Int) == 10) = false := by rw [beq_eq_false_iff_ne]; omega
    go_enter Tryd.func81, Tryd.ntmps81; go_wp2; go_ret
    rw [H.out]; exact ⟨rfl, rfl⟩
  · have H := Lib.hid (show cls b = 1 from cls_one (by omega))
    have f95 : ((b.toNat : Int) == 95) = false := by rw [beq_eq_false_iff_ne]; omega
    have f32 : ((b.toNat : Int) == 32) = false := by rw [beq_eq_false_iff_ne]; omega
    have f9 : ((b.toNat : Int) == 9) = false := by rw [beq_eq_false_iff_ne]; omega
    have f10 : ((b.toNat : Int) == 10) = false := by rw [beq_eq_false_iff_ne]; omega
    go_enter Tryd.func81, Tryd.ntmps81; go_wp2; go_ret
    rw [H.out]; exact ⟨rfl, rfl⟩
  · have H := Lib.hid (show cls b = 0 from cls_none (by omega) (by omega) (by omega))
    have f95 : ((b.toNat : Int) == 95) = false := by rw [beq_eq_false_iff_ne]; omega
    have f32 : ((b.toNat : Int) == 32) = false := by rw [beq_eq_false_iff_ne]; omega
    have f9 : ((b.toNat : Int) == 9) = false := by rw [beq_eq_false_iff_ne]; omega
    have f10 : ((b.toNat : Int) == 10) = false := by rw [beq_eq_false_iff_ne]; omega
    go_enter Tryd.func81, Tryd.ntmps81; go_wp2; go_ret
    rw [H.out]; exact ⟨rfl, rfl⟩
  · have H := Lib.hid (show cls b = 1 from cls_one (by omega))
    have f95 : ((b.toNat : Int) == 95) = true := by rw [beq_iff_eq]; omega
    have f32 : ((b.toNat : Int) == 32) = false := by rw [beq_eq_false_iff_ne]; omega
    have f9 : ((b.toNat : Int) == 9) = false := by rw [beq_eq_false_iff_ne]; omega
    have f10 : ((b.toNat : Int) == 10) = false := by rw [beq_eq_false_iff_ne]; omega
    go_enter Tryd.func81, Tryd.ntmps81; go_wp2; go_ret
    rw [H.out]; exact ⟨rfl, rfl⟩
  · have H := Lib.hid (show cls b = 0 from cls_none (by omega) (by omega) (by omega))
    have f95 : ((b.toNat : Int) == 95) = false := by rw [beq_eq_false_iff_ne]; omega
    have f32 : ((b.toNat : Int) == 32) = false := by rw [beq_eq_false_iff_ne]; omega
    have f9 : ((b.toNat : Int) == 9) = false := by rw [beq_eq_false_iff_ne]; omega
    have f10 : ((b.toNat : Int) == 10) = false := by rw [beq_eq_false_iff_ne]; omega
    go_enter Tryd.func81, Tryd.ntmps81; go_wp2; go_ret
    rw [H.out]; exact ⟨rfl, rfl⟩
  · have H := Lib.hid (show cls b = 1 from cls_one (by omega))
    have f95 : ((b.toNat : Int) == 95) = false := by rw [beq_eq_false_iff_ne]; omega
    have f32 : ((b.toNat : Int) == 32) = false := by rw [beq_eq_false_iff_ne]; omega
    have f9 : ((b.toNat : Int) == 9) = false := by rw [beq_eq_false_iff_ne]; omega
    have f10 : ((b.toNat : Int) == 10) = false := by rw [beq_eq_false_iff_ne]; omega
    go_enter Tryd.func81, Tryd.ntmps81; go_wp2; go_ret
    rw [H.out]; exact ⟨rfl, rfl⟩
  · have H := Lib.hid (show cls b = 0 from cls_none (by omega) (by omega) (by omega))
    have f95 : ((b.toNat : Int) == 95) = false := by rw [beq_eq_false_iff_ne]; omega
    have f32 : ((b.toNat : Int) == 32) = false := by rw [beq_eq_false_iff_ne]; omega
    have f9 : ((b.toNat : Int) == 9) = false := by rw [beq_eq_false_iff_ne]; omega
    have f10 : ((b.toNat : Int) == 10) = false := by rw [beq_eq_false_iff_ne]; omega
    go_enter Tryd.func81, Tryd.ntmps81; go_wp2; go_ret
    rw [H.out]; exact ⟨rfl, rfl⟩
end Go.Proofs.YthhkjjdhecpmlaaDoor
