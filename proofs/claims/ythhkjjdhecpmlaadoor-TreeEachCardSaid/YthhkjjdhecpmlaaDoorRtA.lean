/-
  The reference of layer 2: Digits of a number that is not below 0.
-/
import Derived.Test.YthhkjjdhecpmlaaDoorTrL
namespace Go.Proofs.YthhkjjdhecpmlaaDoor
open Go.RowKit
set_option linter.unusedVariables false
set_option linter.unusedSimpArgs false
theorem dec_small {u : Nat} (h : u < 10) : Lib.decDigits u = [UInt8.ofNat (48 + u)] := by
  rw [Lib.decDigits]; simp [h]
theorem dec_big {u : Nat} (h : ¬ u < 10) : Lib.decDigits u = Lib.decDigits (u / 10) ++ [UInt8.ofNat (48 + u % 10)] := by
  rw [Lib.decDigits]; simp [h]
/-- One digit. -/
theorem digit_one {u : Nat} (h : u < 10) : (⟨#[48, 49, 50, 51, 52, 53, 54, 55, 56, 57]⟩ : ByteArray).extract u (u + 1) = ⟨#[UInt8.ofNat (48 + u)]⟩ := by
  have hu : u = 0 ∨ u = 1 ∨ u = 2 ∨ u = 3 ∨ u = 4 ∨ u = 5 ∨ u = 6 ∨ u = 7 ∨ u = 8 ∨ u = 9 := by omega
  rcases hu with rfl | rfl | rfl | rfl | rfl | rfl | rfl | rfl | rfl | rfl <;> rfl
theorem ib_nat (u : Nat) : ib (u : Int) = ⟨(Lib.decDigits u).toArray⟩ := by
  unfold ib Lib.itoa
  rw [if_neg (by omega)]
  simp
theorem ib_small {u : Nat} (h : u < 10) : ib (u : Int) = (⟨#[48, 49, 50, 51, 52, 53, 54, 55, 56, 57]⟩ : ByteArray).extract u (u + 1) := by
  rw [ib_nat, dec_small h, digit_one h]
theorem ib_big {u : Nat} (h : ¬ u < 10) : ib (u : Int) = ib ((u / 10 : Nat) : Int) ++ (⟨#[48, 49, 50, 51, 52, 53, 54, 55, 56, 57]⟩ : ByteArray).extract (u % 10) (u % 10 + 1) := by
  rw [ib_nat, ib_nat, dec_big h, digit_one (Nat.mod_lt _ (by omega))]
  apply ByteArray.ext
  simp
set_option maxHeartbeats 1000000 in
set_option maxRecDepth 20000 in
theorem digits_small (u : Nat) (h : u < 10) (w : World) :
    Calls Tryd.prog 59 #[.int .i64 u] w fun e w' => e = .returned (.string (ib u)) ∧ Below w.heap.size w w' := by
  have HR := Lib.hid (ib_small h)
  go_enter Tryd.func59, Tryd.ntmps59
  go_wp2
  go_ret
  rw [HR.out]
  exact ⟨rfl, Below.refl _ _⟩
set_option maxHeartbeats 1000000 in
set_option maxRecDepth 20000 in
theorem digits_nat : ∀ (m u : Nat), u < m → u ≤ 9223372036854775807 → ∀ w, 
    Calls Tryd.prog 59 #[.int .i64 u] w fun e w' => e = .returned (.string (ib u)) ∧ Below w.heap.size w w'
  | 0, u, h, _, w => by omega
  | m + 1, u, h, hu, w => by
    by_cases h10 : u < 10
    · exact digits_small u h10 w
    · have hbig := ib_big h10
      have hi := digits_nat m (u / 10) (by omega) (by omega)
      have hz : (ib ((u / 10 : Nat) : Int)).size ≤ 21 := ib_size ⟨by omega, by omega⟩
      have hm : u % 10 < 10 := Nat.mod_lt _ (by omega)
      have hq : (u : Int).tdiv 10 = ((u / 10 : Nat) : Int) := by rw [Int.tdiv_eq_ediv_of_nonneg (by omega)]; omega
      have ht : (u : Int).tmod 10 = ((u % 10 : Nat) : Int) := by rw [Int.tmod_eq_emod_of_nonneg (by omega)]; omega
      have hu2 : u / 10 ≤ u := Nat.div_le_self _ _
      generalize u / 10 = q at *
      generalize u % 10 = r at *
      have HR := Lib.hid hbig; have HI := Lib.hid hi
      clear hbig hi
      have hqw : IntKind.i64.wrap (q : Int) = (q : Int) := IntWalk.i64_in _ (by omega)
      have f1 : ¬ 9223372036854775807 < (ib (q : Int)).size + 1 := by omega
      have hrw : IntKind.i64.wrap ((r : Int) + 1) = (r : Int) + 1 := IntWalk.i64_in _ (by omega)
      have r1 : r + 1 ≤ 10 := hm
      have r2 : (r : Int) + 1 ≤ 10 := by omega
      have r3 : ((r : Int) + 1).toNat = r + 1 := by omega
      have r4 : (0 : Int) ≤ (r : Int) + 1 := by omega
      have r5 : ¬ ((r : Int) + 1 < 0) := by omega
      have r6 : r ≤ r + 1 := by omega
      have r7 : ¬ ((r : Int) + 1 < (r : Int)) := by omega
      have r8 : ¬ ((10 : Int) < (r : Int) + 1) := by omega
      have r9 : (r : Int) ≤ (r : Int) + 1 := by omega
      go_enter Tryd.func59, Tryd.ntmps59
      go_wp2
      go_region_held3 (fun w' => Below w.heap.size w w')
        (first | exact (Below.refl _ _).drew | (refine Below.trans ?_ (hb2.mono ?_); assumption; exact Below.size (by assumption)) | assumption)
        (first | (go_at_call 59; refine (HI.out _).mono ?_; rintro e w2 ⟨rfl, hb2⟩))
      go_wp2
      go_ret
      rw [HR.out]
      exact ⟨rfl, by assumption⟩
end Go.Proofs.YthhkjjdhecpmlaaDoor
