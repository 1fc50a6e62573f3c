/-
  Package lex: the kinds of bytes, and behind: the place behind as many bytes as are told to belong.
-/
import Derived.Test.YthhkjjdhecpmlaaDoorProg
import Derived.WalkKit
import Derived.WalkSpells
import Derived.Lib.Hide
namespace Go.Proofs.YthhkjjdhecpmlaaDoor
open Go.RowKit
set_option linter.unusedVariables false
set_option linter.unusedSimpArgs false

def bLetter (b : UInt8) : Bool := (65 ≤ b && b ≤ 90) || (97 ≤ b && b ≤ 122) || b == 95
def bDigit (b : UInt8) : Bool := 48 ≤ b && b ≤ 57
def bBlank (b : UInt8) : Bool := b == 32 || b == 9 || b == 10
def bLine (b : UInt8) : Bool := b != 10
def bName (b : UInt8) : Bool := bLetter b || bDigit b

theorem bDigit_iff (b : UInt8) : bDigit b = true ↔ 48 ≤ b.toNat ∧ b.toNat ≤ 57 := by
  simp [bDigit, UInt8.le_iff_toNat_le]
theorem bLetter_iff (b : UInt8) : bLetter b = true ↔ (65 ≤ b.toNat ∧ b.toNat ≤ 90) ∨ (97 ≤ b.toNat ∧ b.toNat ≤ 122) ∨ b.toNat = 95 := by
  have h : b = 95 ↔ b.toNat = 95 := ⟨fun h => by subst h; rfl, fun h => UInt8.toNat_inj.1 h⟩
  simp [bLetter, UInt8.le_iff_toNat_le, h, or_assoc]

set_option maxHeartbeats 400000 in
theorem digit_any (b : UInt8) (w : World) :
    Calls Tryd.prog 78 #[.int .u8 b.toNat] w fun e w' => e = .returned (.bool (bDigit b)) ∧ w = w' := by
  have hb : (b.toNat : Int) < 256 := by have := b.toNat_lt; omega
  have hc : (¬ (48 : Int) ≤ b.toNat) ∨ ((48 : Int) ≤ b.toNat ∧ (b.toNat : Int) ≤ 57) ∨ ((48 : Int) ≤ b.toNat ∧ ¬ (b.toNat : Int) ≤ 57) := by omega
  rcases hc with h1 | ⟨h1, h2⟩ | ⟨h1, h2⟩
  · have H := Lib.hid (show bDigit b = false by rw [Bool.eq_false_iff, Ne, bDigit_iff]; omega)
    go_enter Tryd.func78, Tryd.ntmps78; go_wp2; go_ret
    rw [H.out]; refine ⟨?_, rfl⟩; (try simp); (try omega)
  · have H := Lib.hid (show bDigit b = true by rw [bDigit_iff]; omega)
    go_enter Tryd.func78, Tryd.ntmps78; go_wp2; go_ret
    rw [H.out]; refine ⟨?_, rfl⟩; (try simp); (try omega)
  · have H := Lib.hid (show bDigit b = false by rw [Bool.eq_false_iff, Ne, bDigit_iff]; omega)
    go_enter Tryd.func78, Tryd.ntmps78; go_wp2; go_ret
    rw [H.out]; refine ⟨?_, rfl⟩; (try simp); (try omega)
set_option maxHeartbeats 800000 in
theorem letter_any (b : UInt8) (w : World) :
    Calls Tryd.prog 76 #[.int .u8 b.toNat] w fun e w' => e = .returned (.bool (bLetter b)) ∧ w = w' := by
  have hb : (b.toNat : Int) < 256 := by have := b.toNat_lt; omega
  have hc : (¬ (65 : Int) ≤ b.toNat ∧ ¬ (97 : Int) ≤ b.toNat) ∨ ((65 : Int) ≤ b.toNat ∧ (b.toNat : Int) ≤ 90) ∨ ((65 : Int) ≤ b.toNat ∧ ¬ (b.toNat : Int) ≤ 90 ∧ ¬ (97 : Int) ≤ b.toNat ∧ (b.toNat : Int) ≠ 95) ∨ ((b.toNat : Int) = 95 ∧ (65 : Int) ≤ b.toNat ∧ ¬ (b.toNat : Int) ≤ 90 ∧ ¬ (97 : Int) ≤ b.toNat) ∨ ((65 : Int) ≤ b.toNat ∧ ¬ (b.toNat : Int) ≤ 90 ∧ (97 : Int) ≤ b.toNat ∧ (b.toNat : Int) ≤ 122) ∨ ((65 : Int) ≤ b.toNat ∧ ¬ (b.toNat : Int) ≤ 90 ∧ (97 : Int) ≤ b.toNat ∧ ¬ (b.toNat : Int) ≤ 122) := by omega
  rcases hc with ⟨h1, h2⟩ | ⟨h1, h2⟩ | ⟨h1, h2, h3, h4⟩ | ⟨h4, h1, h2, h3⟩ | ⟨h1, h2, h3, h4⟩ | ⟨h1, h2, h3, h4⟩
  · have H := Lib.hid (show bLetter b = false by rw [Bool.eq_false_iff, Ne, bLetter_iff]; omega)
    have f1 : ((b.toNat : Int) == 95) = false := by rw [beq_eq_false_iff_ne]; omega
    go_enter Tryd.func76, Tryd.ntmps76; go_wp2; go_ret
    rw [H.out]; refine ⟨?_, rfl⟩; (try simp); (try omega)
  · have H := Lib.hid (show bLetter b = true by rw [bLetter_iff]; omega)
    go_enter Tryd.func76, Tryd.ntmps76; go_wp2; go_ret
    rw [H.out]; refine ⟨?_, rfl⟩; (try simp); (try omega)
  · have H := Lib.hid (show bLetter b = false by rw [Bool.eq_false_iff, Ne, bLetter_iff]; omega)
    have f1 : ((b.toNat : Int) == 95) = false := by rw [beq_eq_false_iff_ne]; omega
    clear h4
    go_enter Tryd.func76, Tryd.ntmps76; go_wp2; go_ret
    rw [H.out]; refine ⟨?_, rfl⟩; (try simp); (try omega)
  · have H := Lib.hid (show bLetter b = true by rw [bLetter_iff]; omega)
    have f1 : ((b.toNat : Int) == 95) = true := by rw [beq_iff_eq]; omega
    clear h4
    go_enter Tryd.func76, Tryd.ntmps76; go_wp2; go_ret
    rw [H.out]; refine ⟨?_, rfl⟩; (try simp); (try omega)
  · have H := Lib.hid (show bLetter b = true by rw [bLetter_iff]; omega)
    go_enter Tryd.func76, Tryd.ntmps76; go_wp2; go_ret
    rw [H.out]; refine ⟨?_, rfl⟩; (try simp); (try omega)
  · have H := Lib.hid (show bLetter b = false by rw [Bool.eq_false_iff, Ne, bLetter_iff]; omega)
    have f1 : ((b.toNat : Int) == 95) = false := by rw [beq_eq_false_iff_ne]; omega
    go_enter Tryd.func76, Tryd.ntmps76; go_wp2; go_ret
    rw [H.out]; refine ⟨?_, rfl⟩; (try simp); (try omega)
set_option maxHeartbeats 400000 in
theorem blank_any (b : UInt8) (w : World) :
    Calls Tryd.prog 73 #[.int .u8 b.toNat] w fun e w' => e = .returned (.bool (bBlank b)) ∧ w = w' := by
  have hb : (b.toNat : Int) < 256 := by have := b.toNat_lt; omega
  by_cases h1 : (b.toNat : Int) = 32
  · have H := Lib.hid (show bBlank b = true by simp [bBlank, ← UInt8.toNat_inj]; omega)
    have f1 : ((b.toNat : Int) == 32) = true := by rw [beq_iff_eq]; omega
    clear h1
    go_enter Tryd.func73, Tryd.ntmps73; go_wp2; go_ret
    rw [H.out]; refine ⟨?_, rfl⟩; (try simp); (try omega)
  have f1 : ((b.toNat : Int) == 32) = false := by rw [beq_eq_false_iff_ne]; omega
  by_cases h2 : (b.toNat : Int) = 9
  · have H := Lib.hid (show bBlank b = true by simp [bBlank, ← UInt8.toNat_inj]; omega)
    have f2 : ((b.toNat : Int) == 9) = true := by rw [beq_iff_eq]; omega
    clear h1 h2
    go_enter Tryd.func73, Tryd.ntmps73; go_wp2; go_ret
    rw [H.out]; refine ⟨?_, rfl⟩; (try simp); (try omega)
  have f2 : ((b.toNat : Int) == 9) = false := by rw [beq_eq_false_iff_ne]; omega
  by_cases h3 : (b.toNat : Int) = 10
  · have H := Lib.hid (show bBlank b = true by simp [bBlank, ← UInt8.toNat_inj]; omega)
    have f3 : ((b.toNat : Int) == 10) = true := by rw [beq_iff_eq]; omega
    clear h1 h2 h3
    go_enter Tryd.func73, Tryd.ntmps73; go_wp2; go_ret
    rw [H.out]; refine ⟨?_, rfl⟩; (try simp); (try omega)
  have f3 : ((b.toNat : Int) == 10) = false := by rw [beq_eq_false_iff_ne]; omega
  have H := Lib.hid (show bBlank b = false by simp [bBlank, ← UInt8.toNat_inj]; omega)
  clear h1 h2 h3
  go_enter Tryd.func73, Tryd.ntmps73; go_wp2; go_ret
  rw [H.out]; refine ⟨?_, rfl⟩; (try simp); (try omega)
set_option maxHeartbeats 400000 in
theorem line_any (b : UInt8) (w : World) :
    Calls Tryd.prog 75 #[.int .u8 b.toNat] w fun e w' => e = .returned (.bool (bLine b)) ∧ w = w' := by
  have hb : (b.toNat : Int) < 256 := by have := b.toNat_lt; omega
  have H := Lib.hid (show bLine b = ((b.toNat : Int) != 10) by rw [Bool.eq_iff_iff]; simp [bLine, ← UInt8.toNat_inj]; omega)
  go_enter Tryd.func75, Tryd.ntmps75; go_wp2; go_ret
  rw [H.out]; exact ⟨rfl, rfl⟩
set_option maxHeartbeats 400000 in
theorem name_any (b : UInt8) (w : World) :
    Calls Tryd.prog 96 #[.int .u8 b.toNat] w fun e w' => e = .returned (.bool (bName b)) ∧ w = w' := by
  cases hl : bLetter b
  · have H := Lib.hid (show bName b = bDigit b by simp [bName, hl])
    have HL := Lib.hid hl; clear hl
    go_enter Tryd.func96, Tryd.ntmps96
    go_wp2_with fail
    refine (letter_any b _).mono ?_
    rintro e w' ⟨rfl, rfl⟩
    rw [HL.out]
    go_wp2_with fail
    refine (digit_any b _).mono ?_
    rintro e w' ⟨rfl, rfl⟩
    go_wp2_with fail
    go_ret
    rw [H.out]; exact ⟨rfl, rfl⟩
  · have H := Lib.hid (show bName b = true by simp [bName, hl])
    have HL := Lib.hid hl; clear hl
    go_enter Tryd.func96, Tryd.ntmps96
    go_wp2_with fail
    refine (letter_any b _).mono ?_
    rintro e w' ⟨rfl, rfl⟩
    rw [HL.out]
    go_wp2_with fail
    go_ret
    rw [H.out]; exact ⟨rfl, rfl⟩
end Go.Proofs.YthhkjjdhecpmlaaDoor
