/-
  The reference of layer 2: kid, row; the kinds of Text.
-/
import Derived.Test.YthhkjjdhecpmlaaDoorRtC
import Derived.Test.YthhkjjdhecpmlaaDoorTrC
import Derived.Deep.RegionHeld3
import Derived.IntWalk
namespace Go.Proofs.YthhkjjdhecpmlaaDoor
open Go.RowKit
set_option linter.unusedVariables false
set_option linter.unusedSimpArgs false
/-- A contract of the reference's text, at a world and all that have what it has below a bound. -/
def RTextAt (w : World) (B : Nat) (v : Value) (t : ByteArray) : Prop :=
  ∀ w1, Below B w w1 → Calls Tryd.prog 25 #[v] w1 fun e w' => e = .returned (.string t) ∧ Below w1.heap.size w1 w'
theorem RTextAt.later {w w1 : World} {B : Nat} {v : Value} {t : ByteArray} (h : RTextAt w B v t) (hb : Below B w w1) : RTextAt w1 B v t := fun w2 h2 => h w2 (hb.trans h2)
/-- A kid's text is known, as one that must bind so closely. -/
abbrev RKidAt (w : World) (v : Value) (least : Int) (t : ByteArray) : Prop :=
  ∀ w1, Below w.heap.size w w1 → Calls Tryd.prog 60 #[v, .int .i64 least] w1 fun e w' => e = .returned (.string t) ∧ Below w1.heap.size w1 w'
set_option maxHeartbeats 400000 in
theorem rkid_of (k a n : Int) (nm : ByteArray) (off : Bool) (s : Value) (least : Int) (t : ByteArray) (B : Nat) (w : World)
    (ht : t.size ≤ 1000000000) (hk : 1 ≤ k ∧ k ≤ 14) (hB : B ≤ w.heap.size) (hT : RTextAt w B (exVal k a n nm off s) t) :
    RKidAt w (exVal k a n nm off s) least (wrapT (bnd k n nm) least t) := by
  intro w0 hw0
  have hT2 : ∀ w1, Below w0.heap.size w0 w1 → Calls Tryd.prog 25 #[exVal k a n nm off s] w1 fun e w' => e = .returned (.string t) ∧ Below w1.heap.size w1 w' :=
    fun w1 h1 => hT w1 ((hw0.mono hB).trans (h1.mono (Nat.le_trans hB hw0.size)))
  have HT := Lib.hid hT2; clear hT2 hT hw0
  by_cases hc : bnd k n nm < least
  · have hr : wrapT (bnd k n nm) least t = ⟨#[40]⟩ ++ t ++ ⟨#[41]⟩ := by unfold wrapT; rw [if_pos hc]
    have HR := Lib.hid hr; clear hr
    go_enter Tryd.func60, Tryd.ntmps60
    go_wp2_with fail
    refine (rbinds_any _ _ _ _ _ _ _ hk).mono ?_
    rintro e w2 ⟨rfl, hb2⟩
    have hb0 : Below w0.heap.size w0 w2 := ((Below.refl _ _).alloc (Nat.le_refl _) _).trans (hb2.mono (by simp))
    have e0 : w2.cell? ⟨w0.heap.size, 0, none⟩ = some (.int .i64 k) := by rw [hb2.cell (p := ⟨w0.heap.size, 0, none⟩) (by simp)]; simp
    have e1 : w2.cell? ⟨w0.heap.size, 1, none⟩ = some (.int .i64 a) := by rw [hb2.cell (p := ⟨w0.heap.size, 1, none⟩) (by simp)]; simp
    have e2 : w2.cell? ⟨w0.heap.size, 2, none⟩ = some (.int .i64 n) := by rw [hb2.cell (p := ⟨w0.heap.size, 2, none⟩) (by simp)]; simp
    have e3 : w2.cell? ⟨w0.heap.size, 3, none⟩ = some (.string nm) := by rw [hb2.cell (p := ⟨w0.heap.size, 3, none⟩) (by simp)]; simp
    have e4 : w2.cell? ⟨w0.heap.size, 4, none⟩ = some (.bool off) := by rw [hb2.cell (p := ⟨w0.heap.size, 4, none⟩) (by simp)]; simp
    have e5 : w2.cell? ⟨w0.heap.size, 5, none⟩ = some s := by rw [hb2.cell (p := ⟨w0.heap.size, 5, none⟩) (by simp)]; simp
    clear hb2
    go_wp2_with fail
    refine (HT.out _ hb0).mono ?_
    rintro e w3 ⟨rfl, hb3⟩
    go_wp2_with fail
    go_ret
    rw [HR.out]
    exact ⟨rfl, hb0.trans (hb3.mono hb0.size)⟩
  · have hr : wrapT (bnd k n nm) least t = t := by unfold wrapT; rw [if_neg hc]
    have HR := Lib.hid hr; clear hr
    go_enter Tryd.func60, Tryd.ntmps60
    go_wp2_with fail
    refine (rbinds_any _ _ _ _ _ _ _ hk).mono ?_
    rintro e w2 ⟨rfl, hb2⟩
    have hb0 : Below w0.heap.size w0 w2 := ((Below.refl _ _).alloc (Nat.le_refl _) _).trans (hb2.mono (by simp))
    have e0 : w2.cell? ⟨w0.heap.size, 0, none⟩ = some (.int .i64 k) := by rw [hb2.cell (p := ⟨w0.heap.size, 0, none⟩) (by simp)]; simp
    have e1 : w2.cell? ⟨w0.heap.size, 1, none⟩ = some (.int .i64 a) := by rw [hb2.cell (p := ⟨w0.heap.size, 1, none⟩) (by simp)]; simp
    have e2 : w2.cell? ⟨w0.heap.size, 2, none⟩ = some (.int .i64 n) := by rw [hb2.cell (p := ⟨w0.heap.size, 2, none⟩) (by simp)]; simp
    have e3 : w2.cell? ⟨w0.heap.size, 3, none⟩ = some (.string nm) := by rw [hb2.cell (p := ⟨w0.heap.size, 3, none⟩) (by simp)]; simp
    have e4 : w2.cell? ⟨w0.heap.size, 4, none⟩ = some (.bool off) := by rw [hb2.cell (p := ⟨w0.heap.size, 4, none⟩) (by simp)]; simp
    have e5 : w2.cell? ⟨w0.heap.size, 5, none⟩ = some s := by rw [hb2.cell (p := ⟨w0.heap.size, 5, none⟩) (by simp)]; simp
    clear hb2
    go_wp2_with fail
    refine (HT.out _ hb0).mono ?_
    rintro e w3 ⟨rfl, hb3⟩
    go_wp2_with fail
    go_ret
    rw [HR.out]
    exact ⟨rfl, hb0.trans (hb3.mono hb0.size)⟩
/-- The box of an expression, and what lies below. -/
theorem rbox {w W0 : World} {k a n : Int} {nm : ByteArray} {off : Bool} {s : Value} (hW : w.alloc (.cells #[.int .i64 k, .int .i64 a, .int .i64 n, .string nm, .bool off, s] 45) = W0) :
    W0.heap.size = w.heap.size + 1 ∧ Six W0 w.heap.size 0 (.int .i64 k) (.int .i64 a) (.int .i64 n) (.string nm) (.bool off) s ∧ Below w.heap.size w W0 := by
  subst hW
  exact ⟨by simp, by unfold Six; simp, (Below.refl _ _).alloc (Nat.le_refl _) _⟩
theorem six_parts {w : World} {b o : Nat} {c0 c1 c2 c3 c4 c5 : Value} (h : Six w b o c0 c1 c2 c3 c4 c5) : w.cell? ⟨b, o, none⟩ = some c0 ∧ w.cell? ⟨b, o + 1, none⟩ = some c1 ∧ w.cell? ⟨b, o + 2, none⟩ = some c2 ∧ w.cell? ⟨b, o + 3, none⟩ = some c3 ∧ w.cell? ⟨b, o + 4, none⟩ = some c4 ∧ w.cell? ⟨b, o + 5, none⟩ = some c5 := h
/-- A cell below a bound stands in all worlds that have what lies below. -/
theorem keep_cell {W : World} {b o : Nat} {v : Value} (hb : b < W.heap.size) (h : W.cell? ⟨b, o, none⟩ = some v) : ∀ w', Below W.heap.size W w' → w'.cell? ⟨b, o, none⟩ = some v :=
  fun _ h' => (h'.cell (p := ⟨b, o, none⟩) hb).trans h
theorem keep_six {W : World} {b o : Nat} {c0 c1 c2 c3 c4 c5 : Value} (hb : b < W.heap.size) (h : Six W b o c0 c1 c2 c3 c4 c5) :
    ∀ w', Below W.heap.size W w' → w'.cell? ⟨b, o, none⟩ = some c0 ∧ w'.cell? ⟨b, o + 1, none⟩ = some c1 ∧ w'.cell? ⟨b, o + 2, none⟩ = some c2 ∧ w'.cell? ⟨b, o + 3, none⟩ = some c3 ∧ w'.cell? ⟨b, o + 4, none⟩ = some c4 ∧ w'.cell? ⟨b, o + 5, none⟩ = some c5 :=
  fun _ h' => six_parts (h.below h' hb)
theorem below_step {w W0 w' : World} {m : Nat} (h : Below w.heap.size w W0) (hz : W0.heap.size = w.heap.size + m) (h' : Below W0.heap.size W0 w') : Below w.heap.size w w' := h.trans (h'.mono (by omega))
end Go.Proofs.YthhkjjdhecpmlaaDoor
