/-
  The reference of layer 2: Digits of any number.
-/
import Derived.Test.YthhkjjdhecpmlaaDoorRtA
namespace Go.Proofs.YthhkjjdhecpmlaaDoor
open Go.RowKit
set_option linter.unusedVariables false
set_option linter.unusedSimpArgs false
theorem digits_pos (m : Int) (h0 : 0 ≤ m) (h1 : m ≤ 9223372036854775807) (w : World) :
    Calls Tryd.prog 59 #[.int .i64 m] w fun e w' => e = .returned (.string (ib m)) ∧ Below w.heap.size w w' := by
  obtain ⟨u, rfl⟩ : ∃ u : Nat, m = u := ⟨m.toNat, by omega⟩
  exact digits_nat (u + 1) u (by omega) (by omega) w
theorem ib_neg {u : Nat} (h : 0 < u) : ib (-(u : Int)) = ⟨#[45]⟩ ++ ib u := by
  rw [ib_nat]
  unfold ib Lib.itoa
  rw [if_pos (by omega)]
  apply ByteArray.ext
  simp
set_option maxHeartbeats 1000000 in
set_option maxRecDepth 20000 in
theorem digits_neg1 (n : Int) (h0 : n < 0) (h1 : -10 < n) (w : World) :
    Calls Tryd.prog 59 #[.int .i64 n] w fun e w' => e = .returned (.string (ib n)) ∧ Below w.heap.size w w' := by
  have hd := digits_pos (-n) (by omega) (by omega)
  have hr : ib n = ⟨#[45]⟩ ++ ib (-n) := by
    have := ib_neg (u := (-n).toNat) (by omega)
    rwa [show (-(((-n).toNat : Nat) : Int)) = n by omega, show ((((-n).toNat : Nat) : Int)) = -n by omega] at this
  have hz : (ib (-n)).size ≤ 21 := ib_size ⟨by omega, by omega⟩
  have HD := Lib.hid hd; have HR := Lib.hid hr; clear hd hr
  have hw : IntKind.i64.wrap (-n) = -n := IntWalk.i64_in _ (by omega)
  have f1 : ¬ 9223372036854775807 < 1 + (ib (-n)).size := by omega
  go_enter Tryd.func59, Tryd.ntmps59
  go_wp2_with fail
  refine (HD.out _).mono ?_
  rintro e w2 ⟨rfl, hb2⟩
  go_wp2_with fail
  go_ret
  rw [HR.out]
  exact ⟨rfl, hb2⟩
theorem ib_negbig {u : Nat} (h : ¬ u < 10) : ib (-(u : Int)) = ib (-((u / 10 : Nat) : Int)) ++ ib ((u % 10 : Nat) : Int) := by
  rw [ib_neg (by omega), ib_neg (by omega), ib_big h, ib_small (Nat.mod_lt u (by omega))]
  rw [ByteArray.append_assoc]
set_option maxHeartbeats 1000000 in
set_option maxRecDepth 20000 in
theorem digits_negbig : ∀ (m u : Nat), u < m → 0 < u → u ≤ 9223372036854775808 → ∀ w,
    Calls Tryd.prog 59 #[.int .i64 (-(u : Int))] w fun e w' => e = .returned (.string (ib (-(u : Int)))) ∧ Below w.heap.size w w'
  | 0, u, h, _, _, w => by omega
  | m + 1, u, h, hp, hu, w => by
    by_cases h10 : u < 10
    · exact digits_neg1 _ (by omega) (by omega) w
    · have hbig := ib_negbig h10
      have hi := digits_negbig m (u / 10) (by omega) (by omega) (by omega)
      have hj := digits_pos ((u % 10 : Nat) : Int) (by omega) (by omega)
      have hz : (ib (-((u / 10 : Nat) : Int))).size ≤ 21 := ib_size ⟨by omega, by omega⟩
      have hz2 : (ib ((u % 10 : Nat) : Int)).size ≤ 21 := ib_size ⟨by omega, by omega⟩
      have hm : u % 10 < 10 := Nat.mod_lt _ (by omega)
      have hq : (-(u : Int)).tdiv 10 = -((u / 10 : Nat) : Int) := by rw [Int.neg_tdiv, Int.tdiv_eq_ediv_of_nonneg (by omega)]; omega
      have ht : (-(u : Int)).tmod 10 = -((u % 10 : Nat) : Int) := by rw [Int.neg_tmod, Int.tmod_eq_emod_of_nonneg (by omega)]; omega
      have hu2 : u / 10 ≤ u := Nat.div_le_self _ _
      generalize u / 10 = q at *
      generalize u % 10 = r at *
      obtain ⟨n, hn⟩ : ∃ n : Int, n = -(u : Int) := ⟨_, rfl⟩
      rw [← hn] at hq ht hbig ⊢
      have hn1 : n ≤ -10 := by omega
      have hn2 : -9223372036854775808 ≤ n := by omega
      have hqw : IntKind.i64.wrap (-(q : Int)) = -(q : Int) := IntWalk.i64_in _ (by omega)
      have hrw : IntKind.i64.wrap (-(r : Int)) = -(r : Int) := IntWalk.i64_in _ (by omega)
      have hrw2 : IntKind.i64.wrap (r : Int) = (r : Int) := IntWalk.i64_in _ (by omega)
      have hr10 : (r : Int) < 10 := by omega
      clear hn h hp hu h10 hu2 hm
      have HR := Lib.hid hbig; have HI := Lib.hid hi; have HJ := Lib.hid hj
      clear hbig hi hj
      have f1 : ¬ 9223372036854775807 < (ib (-(q : Int))).size + (ib (r : Int)).size := by omega
      go_enter Tryd.func59, Tryd.ntmps59
      go_wp2_with fail
      refine (HI.out _).mono ?_
      rintro e w2 ⟨rfl, hb2⟩
      have HB2 := Lib.hid hb2; clear hb2
      go_wp2_with fail
      refine (HJ.out _).mono ?_
      rintro e w3 ⟨rfl, hb3⟩
      have HB3 := Lib.hid hb3; clear hb3
      go_wp2_with fail
      go_ret
      rw [HR.out]
      exact ⟨rfl, HB2.out.trans (HB3.out.mono HB2.out.size)⟩
/-- Digits of any number. -/
theorem digits_any (n : Int) (h0 : -9223372036854775808 ≤ n) (h1 : n ≤ 9223372036854775807) (w : World) :
    Calls Tryd.prog 59 #[.int .i64 n] w fun e w' => e = .returned (.string (ib n)) ∧ Below w.heap.size w w' := by
  by_cases h : 0 ≤ n
  · exact digits_pos n h h1 w
  · obtain ⟨u, rfl⟩ : ∃ u : Nat, n = -(u : Int) := ⟨(-n).toNat, by omega⟩
    exact digits_negbig (u + 1) u (by omega) (by omega) (by omega) w
end Go.Proofs.YthhkjjdhecpmlaaDoor
