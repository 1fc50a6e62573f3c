/-
  The reference of layer 2: row; the kinds of Text Neg, Binary, Call, Await.
-/
import Derived.Test.YthhkjjdhecpmlaaDoorRtF
namespace Go.Proofs.YthhkjjdhecpmlaaDoor
open Go.RowKit
set_option linter.unusedVariables false
set_option linter.unusedSimpArgs false
set_option maxHeartbeats 1000000 in
set_option maxRecDepth 100000 in
theorem rneg_one (a n : Int) (nm : ByteArray) (off : Bool) (b o len cap : Nat) (k0 a0 n0 : Int) (nm0 : ByteArray) (off0 : Bool) (s0 : Value) (t8 t : ByteArray) (w : World) (hl : len = 1) (hb : b < w.heap.size) (ht : t.size ≤ 100000000) (ht8 : t8.size ≤ 100000000) (hp : 0 < t8.size)
    (hk : k0 = 1)
    (hs0 : Six w b o (.int .i64 k0) (.int .i64 a0) (.int .i64 n0) (.string nm0) (.bool off0) s0) (h8 : RKidAt w (exVal k0 a0 n0 nm0 off0 s0) 8 t8) (h0 : RTextW w (exVal k0 a0 n0 nm0 off0 s0) t) :
    Calls Tryd.prog 25 #[exVal 4 a n nm off (.slice (some ⟨b, o, none⟩) len cap)] w fun e w' => e = .returned (.string (⟨#[45, 40]⟩ ++ t ++ ⟨#[41]⟩)) ∧ Below w.heap.size w w' := by
  subst hl
  subst hk
  have H0 := Lib.hid h0; have H8 := Lib.hid h8; clear h0 h8
  have f1 : ¬ 9223372036854775807 < 2 + t.size := by omega
  have f2 : ¬ 9223372036854775807 < 2 + t.size + 1 := by omega
  have f3 : ¬ 9223372036854775807 < 1 + t8.size := by omega
  have HS := hs0
  obtain ⟨c0, c1, c2, c3, c4, c5⟩ := hs0
  have d0 := alloc_cell hb c0
  have d1 := alloc_cell hb c1
  have d2 := alloc_cell hb c2
  have d3 := alloc_cell hb c3
  have d4 := alloc_cell hb c4
  have d5 := alloc_cell hb c5
  clear c0 c1 c2 c3 c4 c5
  go_enter Tryd.func25, Tryd.ntmps25
  go_wp2_with fail
  refine (H8.out _ ((Below.refl _ _).alloc (Nat.le_refl _) _)).mono ?_
  rintro e w1 ⟨rfl, hb1⟩
  have hb0 : Below w.heap.size w w1 := ((Below.refl _ _).alloc (Nat.le_refl _) _).trans (hb1.mono (by simp))
  have e5 : w1.cell? ⟨w.heap.size, 5, none⟩ = some (.slice (some ⟨b, o, none⟩) 1 cap) := by
    rw [hb1.cell (p := ⟨w.heap.size, 5, none⟩) (by simp)]; simp
  obtain ⟨g0, g1, g2, g3, g4, g5⟩ := six_parts (HS.below hb0 hb)
  clear hb1 d0 d1 d2 d3 d4 d5 HS
  go_wp2_with fail
  refine (H0.out _ hb0).mono ?_
  rintro e w2 ⟨rfl, hb2⟩
  go_wp2_with fail
  go_ret
  exact ⟨rfl, hb0.trans (hb2.mono hb0.size)⟩
set_option maxHeartbeats 1000000 in
set_option maxRecDepth 100000 in
theorem rneg_minus (a n : Int) (nm : ByteArray) (off : Bool) (b o len cap : Nat) (k0 a0 n0 : Int) (nm0 : ByteArray) (off0 : Bool) (s0 : Value) (t8 t : ByteArray) (w : World) (hl : len = 1) (hb : b < w.heap.size) (ht : t.size ≤ 100000000) (ht8 : t8.size ≤ 100000000) (hp : 0 < t8.size)
    (hk : (k0 == 1) = false) (hc : ((t8[0].toNat : Int) == 45) = true)
    (hs0 : Six w b o (.int .i64 k0) (.int .i64 a0) (.int .i64 n0) (.string nm0) (.bool off0) s0) (h8 : RKidAt w (exVal k0 a0 n0 nm0 off0 s0) 8 t8) (h0 : RTextW w (exVal k0 a0 n0 nm0 off0 s0) t) :
    Calls Tryd.prog 25 #[exVal 4 a n nm off (.slice (some ⟨b, o, none⟩) len cap)] w fun e w' => e = .returned (.string (⟨#[45, 40]⟩ ++ t ++ ⟨#[41]⟩)) ∧ Below w.heap.size w w' := by
  subst hl
  
  have H0 := Lib.hid h0; have H8 := Lib.hid h8; clear h0 h8
  have f1 : ¬ 9223372036854775807 < 2 + t.size := by omega
  have f2 : ¬ 9223372036854775807 < 2 + t.size + 1 := by omega
  have f3 : ¬ 9223372036854775807 < 1 + t8.size := by omega
  have HS := hs0
  obtain ⟨c0, c1, c2, c3, c4, c5⟩ := hs0
  have d0 := alloc_cell hb c0
  have d1 := alloc_cell hb c1
  have d2 := alloc_cell hb c2
  have d3 := alloc_cell hb c3
  have d4 := alloc_cell hb c4
  have d5 := alloc_cell hb c5
  clear c0 c1 c2 c3 c4 c5
  go_enter Tryd.func25, Tryd.ntmps25
  go_wp2_with fail
  refine (H8.out _ ((Below.refl _ _).alloc (Nat.le_refl _) _)).mono ?_
  rintro e w1 ⟨rfl, hb1⟩
  have hb0 : Below w.heap.size w w1 := ((Below.refl _ _).alloc (Nat.le_refl _) _).trans (hb1.mono (by simp))
  have e5 : w1.cell? ⟨w.heap.size, 5, none⟩ = some (.slice (some ⟨b, o, none⟩) 1 cap) := by
    rw [hb1.cell (p := ⟨w.heap.size, 5, none⟩) (by simp)]; simp
  obtain ⟨g0, g1, g2, g3, g4, g5⟩ := six_parts (HS.below hb0 hb)
  clear hb1 d0 d1 d2 d3 d4 d5 HS
  go_wp2_with fail
  refine (H0.out _ hb0).mono ?_
  rintro e w2 ⟨rfl, hb2⟩
  go_wp2_with fail
  go_ret
  exact ⟨rfl, hb0.trans (hb2.mono hb0.size)⟩
set_option maxHeartbeats 1000000 in
set_option maxRecDepth 100000 in
theorem rneg_other (a n : Int) (nm : ByteArray) (off : Bool) (b o len cap : Nat) (k0 a0 n0 : Int) (nm0 : ByteArray) (off0 : Bool) (s0 : Value) (t8 t : ByteArray) (w : World) (hl : len = 1) (hb : b < w.heap.size) (ht : t.size ≤ 100000000) (ht8 : t8.size ≤ 100000000) (hp : 0 < t8.size)
    (hk : (k0 == 1) = false) (hc : ((t8[0].toNat : Int) == 45) = false)
    (hs0 : Six w b o (.int .i64 k0) (.int .i64 a0) (.int .i64 n0) (.string nm0) (.bool off0) s0) (h8 : RKidAt w (exVal k0 a0 n0 nm0 off0 s0) 8 t8) (h0 : RTextW w (exVal k0 a0 n0 nm0 off0 s0) t) :
    Calls Tryd.prog 25 #[exVal 4 a n nm off (.slice (some ⟨b, o, none⟩) len cap)] w fun e w' => e = .returned (.string (⟨#[45]⟩ ++ t8)) ∧ Below w.heap.size w w' := by
  subst hl
  
  have H0 := Lib.hid h0; have H8 := Lib.hid h8; clear h0 h8
  have f1 : ¬ 9223372036854775807 < 2 + t.size := by omega
  have f2 : ¬ 9223372036854775807 < 2 + t.size + 1 := by omega
  have f3 : ¬ 9223372036854775807 < 1 + t8.size := by omega
  have HS := hs0
  obtain ⟨c0, c1, c2, c3, c4, c5⟩ := hs0
  have d0 := alloc_cell hb c0
  have d1 := alloc_cell hb c1
  have d2 := alloc_cell hb c2
  have d3 := alloc_cell hb c3
  have d4 := alloc_cell hb c4
  have d5 := alloc_cell hb c5
  clear c0 c1 c2 c3 c4 c5
  go_enter Tryd.func25, Tryd.ntmps25
  go_wp2_with fail
  refine (H8.out _ ((Below.refl _ _).alloc (Nat.le_refl _) _)).mono ?_
  rintro e w1 ⟨rfl, hb1⟩
  have hb0 : Below w.heap.size w w1 := ((Below.refl _ _).alloc (Nat.le_refl _) _).trans (hb1.mono (by simp))
  have e5 : w1.cell? ⟨w.heap.size, 5, none⟩ = some (.slice (some ⟨b, o, none⟩) 1 cap) := by
    rw [hb1.cell (p := ⟨w.heap.size, 5, none⟩) (by simp)]; simp
  obtain ⟨g0, g1, g2, g3, g4, g5⟩ := six_parts (HS.below hb0 hb)
  clear hb1 d0 d1 d2 d3 d4 d5 HS
  go_wp2_with fail
  go_ret
  exact ⟨rfl, hb0⟩
end Go.Proofs.YthhkjjdhecpmlaaDoor
