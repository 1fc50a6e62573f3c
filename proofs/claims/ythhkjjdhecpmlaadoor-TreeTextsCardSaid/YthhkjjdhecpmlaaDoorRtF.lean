/-
  The reference of layer 2: row; the kinds of Text Int, Bool, Var, Neg, Not, Binary, Pre, Call, Await, out of what is known of the kids.
-/
import Derived.Test.YthhkjjdhecpmlaaDoorRtE
import Derived.Test.YthhkjjdhecpmlaaDoorTrI
namespace Go.Proofs.YthhkjjdhecpmlaaDoor
open Go.RowKit
set_option linter.unusedVariables false
set_option linter.unusedSimpArgs false
set_option maxHeartbeats 1000000 in
set_option maxRecDepth 100000 in
theorem rtext_int (a n : Int) (nm : ByteArray) (off : Bool) (s : Value) (w : World)
    (hF : ∀ w1, Below w.heap.size w w1 → Calls Tryd.prog 59 #[.int .i64 n] w1 fun e w' => e = .returned (.string (ib n)) ∧ Below w1.heap.size w1 w') :
    Calls Tryd.prog 25 #[exVal 1 a n nm off s] w fun e w' => e = .returned (.string (ib n)) ∧ Below w.heap.size w w' := by
  have HF := Lib.hid hF; clear hF
  go_enter Tryd.func25, Tryd.ntmps25
  go_wp2_with fail
  refine (HF.out _ ((Below.refl _ _).alloc (Nat.le_refl _) _)).mono ?_
  rintro e w1 ⟨rfl, hb1⟩
  go_wp2_with fail
  go_ret
  exact ⟨rfl, ((Below.refl _ _).alloc (Nat.le_refl _) _).trans (hb1.mono (by simp))⟩
set_option maxHeartbeats 1000000 in
set_option maxRecDepth 100000 in
theorem rtext_bool (a n : Int) (nm : ByteArray) (off : Bool) (s : Value) (w : World) (h : n = 0 ∨ n = 1) :
    Calls Tryd.prog 25 #[exVal 2 a n nm off s] w fun e w' => e = .returned (.string (if n = 0 then ⟨#[102, 97, 108, 115, 101]⟩ else ⟨#[116, 114, 117, 101]⟩)) ∧ Below w.heap.size w w' := by
  rcases h with rfl | rfl
  · go_enter Tryd.func25, Tryd.ntmps25
    go_wp2_with fail
    go_ret
    exact ⟨rfl, (Below.refl _ _).alloc (Nat.le_refl _) _⟩
  · go_enter Tryd.func25, Tryd.ntmps25
    go_wp2_with fail
    go_ret
    exact ⟨rfl, (Below.refl _ _).alloc (Nat.le_refl _) _⟩
set_option maxHeartbeats 1000000 in
set_option maxRecDepth 100000 in
theorem rtext_var (a n : Int) (nm : ByteArray) (off : Bool) (s : Value) (w : World) :
    Calls Tryd.prog 25 #[exVal 3 a n nm off s] w fun e w' => e = .returned (.string nm) ∧ Below w.heap.size w w' := by
  go_enter Tryd.func25, Tryd.ntmps25
  go_wp2_with fail
  go_ret
  exact ⟨rfl, (Below.refl _ _).alloc (Nat.le_refl _) _⟩
set_option maxHeartbeats 1000000 in
set_option maxRecDepth 100000 in
theorem rtext_not (a n : Int) (nm : ByteArray) (off : Bool) (b o len cap : Nat) (k0 a0 n0 : Int) (nm0 : ByteArray) (off0 : Bool) (s0 : Value) (t0 : ByteArray) (w : World) (hl : len = 1) (hb : b < w.heap.size) (ht0 : t0.size ≤ 100000000)
    (hs0 : Six w b o (.int .i64 k0) (.int .i64 a0) (.int .i64 n0) (.string nm0) (.bool off0) s0) (h0 : RKidAt w (exVal k0 a0 n0 nm0 off0 s0) 4 t0) :
    Calls Tryd.prog 25 #[exVal 5 a n nm off (.slice (some ⟨b, o, none⟩) len cap)] w fun e w' => e = .returned (.string (⟨#[110, 111, 116, 32]⟩ ++ t0)) ∧ Below w.heap.size w w' := by
  subst hl
  have H0 := Lib.hid h0; clear h0
  have f1 : ¬ 9223372036854775807 < 4 + t0.size := by omega
  obtain ⟨c0, c1, c2, c3, c4, c5⟩ := hs0
  have d0 := alloc_cell hb c0
  have d1 := alloc_cell hb c1
  have d2 := alloc_cell hb c2
  have d3 := alloc_cell hb c3
  have d4 := alloc_cell hb c4
  have d5 := alloc_cell hb c5
  clear c0 c1 c2 c3 c4 c5
  go_enter Tryd.func25, Tryd.ntmps25
  go_wp2_with fail
  refine (H0.out _ ((Below.refl _ _).alloc (Nat.le_refl _) _)).mono ?_
  rintro e w1 ⟨rfl, hb1⟩
  go_wp2_with fail
  go_ret
  exact ⟨rfl, ((Below.refl _ _).alloc (Nat.le_refl _) _).trans (hb1.mono (by simp))⟩
set_option maxHeartbeats 1000000 in
set_option maxRecDepth 100000 in
theorem rtext_pre (a n : Int) (nm : ByteArray) (off : Bool) (b o len cap : Nat) (k0 a0 n0 : Int) (nm0 : ByteArray) (off0 : Bool) (s0 : Value) (t0 : ByteArray) (w : World) (hl : len = 1) (hb : b < w.heap.size) (ht0 : t0.size ≤ 100000000)
    (hs0 : Six w b o (.int .i64 k0) (.int .i64 a0) (.int .i64 n0) (.string nm0) (.bool off0) s0) (h0 : RKidAt w (exVal k0 a0 n0 nm0 off0 s0) 8 t0) :
    Calls Tryd.prog 25 #[exVal 10 a n nm off (.slice (some ⟨b, o, none⟩) len cap)] w fun e w' => e = .returned (.string (⟨#[112, 114, 101, 32]⟩ ++ t0)) ∧ Below w.heap.size w w' := by
  subst hl
  have H0 := Lib.hid h0; clear h0
  have f1 : ¬ 9223372036854775807 < 4 + t0.size := by omega
  obtain ⟨c0, c1, c2, c3, c4, c5⟩ := hs0
  have d0 := alloc_cell hb c0
  have d1 := alloc_cell hb c1
  have d2 := alloc_cell hb c2
  have d3 := alloc_cell hb c3
  have d4 := alloc_cell hb c4
  have d5 := alloc_cell hb c5
  clear c0 c1 c2 c3 c4 c5
  go_enter Tryd.func25, Tryd.ntmps25
  go_wp2_with fail
  refine (H0.out _ ((Below.refl _ _).alloc (Nat.le_refl _) _)).mono ?_
  rintro e w1 ⟨rfl, hb1⟩
  go_wp2_with fail
  go_ret
  exact ⟨rfl, ((Below.refl _ _).alloc (Nat.le_refl _) _).trans (hb1.mono (by simp))⟩
end Go.Proofs.YthhkjjdhecpmlaaDoor
