/-
  The contracts of kidText: a kid in brackets where it binds less closely; nothing of one that is wanting.
-/
import Derived.Test.YthhkjjdhecpmlaaDoorTrA
namespace Go.Proofs.YthhkjjdhecpmlaaDoor
open Go.RowKit
set_option linter.unusedVariables false
set_option linter.unusedSimpArgs false
/-- A kid's text, in brackets where it binds less closely. -/
def wrapT (b least : Int) (t : ByteArray) : ByteArray := if b < least then ⟨#[40]⟩ ++ t ++ ⟨#[41]⟩ else t
theorem alloc_cell {w : World} {b o : Nat} {v : Value} (hb : b < w.heap.size) (h : w.cell? ⟨b, o, none⟩ = some v) : ∀ X, (w.alloc X).cell? ⟨b, o, none⟩ = some v := fun X => by
  rw [← h]; exact (((Below.refl w.heap.size w).alloc (Nat.le_refl _) X).cell (p := ⟨b, o, none⟩) hb)
set_option maxHeartbeats 400000 in
theorem kidText_some (k a n : Int) (nm : ByteArray) (off : Bool) (b o len cap i : Nat) (least : Int)
    (k1 a1 n1 : Int) (nm1 : ByteArray) (off1 : Bool) (s1 : Value) (t : ByteArray) (B : Nat) (w : World)
    (ht : t.size ≤ 1000000000) (hk1 : 1 ≤ k1 ∧ k1 ≤ 14) (hi : i < len) (hl : len ≤ 1000000) (hbB : b < B) (hB : B ≤ w.heap.size)
    (hs : Six w b (o + i * 6) (.int .i64 k1) (.int .i64 a1) (.int .i64 n1) (.string nm1) (.bool off1) s1)
    (hT : ∀ w1, Below B w w1 → Calls Tryd.prog 24 #[exVal k1 a1 n1 nm1 off1 s1] w1 fun e w' => e = .returned (.string t) ∧ Below w1.heap.size w1 w') :
    Calls Tryd.prog 54 #[exVal k a n nm off (.slice (some ⟨b, o, none⟩) len cap), .int .i64 i, .int .i64 least] w fun e w' =>
      e = .returned (.string (wrapT (bnd k1 n1 nm1) least t)) ∧ Below w.heap.size w w' := by
  have hbw : b < w.heap.size := by omega
  obtain ⟨c0, c1, c2, c3, c4, c5⟩ := hs
  have d0 := alloc_cell hbw c0
  have d1 := alloc_cell hbw c1
  have d2 := alloc_cell hbw c2
  have d3 := alloc_cell hbw c3
  have d4 := alloc_cell hbw c4
  have d5 := alloc_cell hbw c5
  have C0 := Lib.hid d0; have C1 := Lib.hid d1; have C2 := Lib.hid d2; have C3 := Lib.hid d3; have C4 := Lib.hid d4; have C5 := Lib.hid d5
  clear c0 c1 c2 c3 c4 c5
  have HT := Lib.hid hT; clear hT
  have h10 : (10 : Int) ≤ 10 := by omega
  go_enter Tryd.func54, Tryd.ntmps54
  go_wp2_with fail
  refine (HT.out _ ((Below.refl _ _).alloc (by omega) _)).mono ?_
  rintro e w1 ⟨rfl, hb1⟩
  have hb0 : Below w.heap.size w w1 := ((Below.refl _ _).alloc (Nat.le_refl _) _).trans (hb1.mono (by simp))
  have hz : w.heap.size + 1 ≤ w1.heap.size := by have := hb1.size; simp at this; omega
  have e5 : w1.cell? ⟨w.heap.size, 5, none⟩ = some (.slice (some ⟨b, o, none⟩) len cap) := by
    rw [hb1.cell (p := ⟨w.heap.size, 5, none⟩) (by simp)]; simp
  have e0 := (hb1.cell (p := ⟨b, o + i * 6, none⟩) (by simp; omega)).trans (C0.out _)
  have e1 := (hb1.cell (p := ⟨b, o + i * 6 + 1, none⟩) (by simp; omega)).trans (C1.out _)
  have e2 := (hb1.cell (p := ⟨b, o + i * 6 + 2, none⟩) (by simp; omega)).trans (C2.out _)
  have e3 := (hb1.cell (p := ⟨b, o + i * 6 + 3, none⟩) (by simp; omega)).trans (C3.out _)
  have e4 := (hb1.cell (p := ⟨b, o + i * 6 + 4, none⟩) (by simp; omega)).trans (C4.out _)
  have e6 := (hb1.cell (p := ⟨b, o + i * 6 + 5, none⟩) (by simp; omega)).trans (C5.out _)
  clear d0 d1 d2 d3 d4 d5 hb1
  by_cases hc : bnd k1 n1 nm1 < least
  · have hr : wrapT (bnd k1 n1 nm1) least t = ⟨#[40]⟩ ++ t ++ ⟨#[41]⟩ := by unfold wrapT; rw [if_pos hc]
    have HR := Lib.hid hr; clear hr
    go_wp2_with fail
    refine (binds_any _ _ _ _ _ _ _ hk1).mono ?_
    rintro e w2 ⟨rfl, hb2⟩
    go_wp2_with fail
    go_ret
    rw [HR.out]
    exact ⟨rfl, hb0.trans (hb2.mono (by omega))⟩
  · have hr : wrapT (bnd k1 n1 nm1) least t = t := by unfold wrapT; rw [if_neg hc]
    have HR := Lib.hid hr; clear hr
    go_wp2_with fail
    refine (binds_any _ _ _ _ _ _ _ hk1).mono ?_
    rintro e w2 ⟨rfl, hb2⟩
    go_wp2_with fail
    go_ret
    rw [HR.out]
    exact ⟨rfl, hb0.trans (hb2.mono (by omega))⟩
/-- Of a kid that is wanting: nothing. -/
theorem kidText_none (k a n : Int) (nm : ByteArray) (off : Bool) (len cap : Nat) (p : Option Addr) (i least : Int) (w : World) (h : (len : Int) ≤ i) :
    Calls Tryd.prog 54 #[exVal k a n nm off (.slice p len cap), .int .i64 i, .int .i64 least] w fun e w' =>
      e = .returned (.string ⟨#[]⟩) ∧ Below w.heap.size w w' := by
  go_enter Tryd.func54, Tryd.ntmps54
  go_wp2_with fail
  go_ret
  exact ⟨rfl, (Below.refl _ _).alloc (Nat.le_refl _) _⟩
end Go.Proofs.YthhkjjdhecpmlaaDoor
