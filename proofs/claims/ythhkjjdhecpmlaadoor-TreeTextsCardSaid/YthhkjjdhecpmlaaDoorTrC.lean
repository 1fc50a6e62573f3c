/-
  The contract of binaryText: two kids with the sign between them, whatever the order in which Go reads.
-/
import Derived.Test.YthhkjjdhecpmlaaDoorTrB
import Derived.Deep.RegionHeld3
import Derived.IntWalk
namespace Go.Proofs.YthhkjjdhecpmlaaDoor
open Go.RowKit
set_option linter.unusedVariables false
set_option linter.unusedSimpArgs false
/-- What a box holds, and that all below it stands. -/
theorem box_keep {b : Nat} {c0 c1 c2 c3 c4 c5 : Value} {W0 w1 w2 : World} (hs : b < W0.heap.size)
    (h : w1.cell? ⟨b, 0, none⟩ = some c0 ∧ w1.cell? ⟨b, 1, none⟩ = some c1 ∧ w1.cell? ⟨b, 2, none⟩ = some c2 ∧ w1.cell? ⟨b, 3, none⟩ = some c3 ∧ w1.cell? ⟨b, 4, none⟩ = some c4 ∧ w1.cell? ⟨b, 5, none⟩ = some c5 ∧ Below W0.heap.size W0 w1)
    (hb : Below w1.heap.size w1 w2) :
    w2.cell? ⟨b, 0, none⟩ = some c0 ∧ w2.cell? ⟨b, 1, none⟩ = some c1 ∧ w2.cell? ⟨b, 2, none⟩ = some c2 ∧ w2.cell? ⟨b, 3, none⟩ = some c3 ∧ w2.cell? ⟨b, 4, none⟩ = some c4 ∧ w2.cell? ⟨b, 5, none⟩ = some c5 ∧ Below W0.heap.size W0 w2 := by
  obtain ⟨h0, h1, h2, h3, h4, h5, h6⟩ := h
  have hz := h6.size
  exact ⟨(hb.cell (p := ⟨b, 0, none⟩) (by simp; omega)).trans h0, (hb.cell (p := ⟨b, 1, none⟩) (by simp; omega)).trans h1, (hb.cell (p := ⟨b, 2, none⟩) (by simp; omega)).trans h2, (hb.cell (p := ⟨b, 3, none⟩) (by simp; omega)).trans h3, (hb.cell (p := ⟨b, 4, none⟩) (by simp; omega)).trans h4, (hb.cell (p := ⟨b, 5, none⟩) (by simp; omega)).trans h5, h6.trans (hb.mono hz)⟩
theorem below_box {w : World} {X : Obj} {W0 w1 : World} (hW : w.alloc X = W0) (h : Below W0.heap.size W0 w1) : Below w.heap.size w w1 := by
  subst hW
  exact ((Below.refl _ _).alloc (Nat.le_refl _) _).trans (h.mono (by simp))
set_option maxHeartbeats 1000000 in
theorem binaryText_five (k a n : Int) (nm : ByteArray) (off : Bool) (s : Value) (t0 t1 : ByteArray) (w : World) (hg : signB nm = 5)
    (hnm : nm.size ≤ 1000) (ht0 : t0.size ≤ 100000000) (ht1 : t1.size ≤ 100000000)
    (h0 : ∀ w1, Below w.heap.size w w1 → Calls Tryd.prog 54 #[exVal k a n nm off s, .int .i64 0, .int .i64 6] w1 fun e w' => e = .returned (.string t0) ∧ Below w1.heap.size w1 w')
    (h1 : ∀ w1, Below w.heap.size w w1 → Calls Tryd.prog 54 #[exVal k a n nm off s, .int .i64 1, .int .i64 6] w1 fun e w' => e = .returned (.string t1) ∧ Below w1.heap.size w1 w') :
    Calls Tryd.prog 55 #[exVal k a n nm off s] w fun e w' => e = .returned (.string (t0 ++ ⟨#[32]⟩ ++ nm ++ ⟨#[32]⟩ ++ t1)) ∧ Below w.heap.size w w' := by
    have HG := Lib.hid hg; clear hg
    have H1 := Lib.hid h1; clear h1
    have H0 := Lib.hid h0; clear h0
    have hwr : IntKind.i64.wrap 6 = 6 := by decide
    have f1 : ¬ 9223372036854775807 < t0.size + 1 := by omega
    have f2 : ¬ 9223372036854775807 < t0.size + 1 + nm.size := by omega
    have f3 : ¬ 9223372036854775807 < t0.size + 1 + nm.size + 1 := by omega
    have f4 : ¬ 9223372036854775807 < t0.size + 1 + nm.size + 1 + t1.size := by omega
    go_enter Tryd.func55, Tryd.ntmps55
    go_wp2_with (go_at_call 87; refine (signBinds_any _ _).mono ?_; rintro e w' ⟨rfl, rfl⟩; rw [HG.out])
    generalize hW : w.alloc _ = W0
    have hs : w.heap.size < W0.heap.size := by rw [← hW]; simp
    have c0 : W0.cell? ⟨w.heap.size, 0, none⟩ = some (.int .i64 k) := by rw [← hW]; simp
    have c1 : W0.cell? ⟨w.heap.size, 1, none⟩ = some (.int .i64 a) := by rw [← hW]; simp
    have c2 : W0.cell? ⟨w.heap.size, 2, none⟩ = some (.int .i64 n) := by rw [← hW]; simp
    have c3 : W0.cell? ⟨w.heap.size, 3, none⟩ = some (.string nm) := by rw [← hW]; simp
    have c4 : W0.cell? ⟨w.heap.size, 4, none⟩ = some (.bool off) := by rw [← hW]; simp
    have c5 : W0.cell? ⟨w.heap.size, 5, none⟩ = some s := by rw [← hW]; simp
    have HW := Lib.hid hW; clear hW
    have hbS : ∀ w', w'.cell? ⟨w.heap.size, 0, none⟩ = some (.int .i64 k) ∧ w'.cell? ⟨w.heap.size, 1, none⟩ = some (.int .i64 a) ∧ w'.cell? ⟨w.heap.size, 2, none⟩ = some (.int .i64 n) ∧ w'.cell? ⟨w.heap.size, 3, none⟩ = some (.string nm) ∧ w'.cell? ⟨w.heap.size, 4, none⟩ = some (.bool off) ∧ w'.cell? ⟨w.heap.size, 5, none⟩ = some s ∧ Below W0.heap.size W0 w' → Below w.heap.size w w' := fun w' h => below_box HW.out h.2.2.2.2.2.2
    have HB := Lib.hid hbS; clear hbS
    go_region_held3 (fun w' => w'.cell? ⟨w.heap.size, 0, none⟩ = some (.int .i64 k) ∧ w'.cell? ⟨w.heap.size, 1, none⟩ = some (.int .i64 a) ∧ w'.cell? ⟨w.heap.size, 2, none⟩ = some (.int .i64 n) ∧ w'.cell? ⟨w.heap.size, 3, none⟩ = some (.string nm) ∧ w'.cell? ⟨w.heap.size, 4, none⟩ = some (.bool off) ∧ w'.cell? ⟨w.heap.size, 5, none⟩ = some s ∧ Below W0.heap.size W0 w')
      (first | exact ⟨c0, c1, c2, c3, c4, c5, (Below.refl _ _).drew⟩ | (refine box_keep hs ?_ hb2; assumption))
      (first | (go_at_call 54; with_reducible refine (H0.out _ (HB.out _ ?_)).mono ?_; assumption; rintro e w2 ⟨rfl, hb2⟩) | (go_at_call 54; with_reducible refine (H1.out _ (HB.out _ ?_)).mono ?_; assumption; rintro e w2 ⟨rfl, hb2⟩))
    go_wp2
    go_ret
    exact ⟨rfl, HB.out _ (by assumption)⟩
set_option maxHeartbeats 1000000 in
theorem binaryText_other (k a n : Int) (nm : ByteArray) (off : Bool) (s : Value) (t0 t1 : ByteArray) (w : World) (g : Int) (hg : signB nm = g) (hg1 : 2 ≤ g) (hg2 : g ≤ 7) (hg5 : g ≠ 5)
    (hnm : nm.size ≤ 1000) (ht0 : t0.size ≤ 100000000) (ht1 : t1.size ≤ 100000000)
    (h0 : ∀ w1, Below w.heap.size w w1 → Calls Tryd.prog 54 #[exVal k a n nm off s, .int .i64 0, .int .i64 g] w1 fun e w' => e = .returned (.string t0) ∧ Below w1.heap.size w1 w')
    (h1 : ∀ w1, Below w.heap.size w w1 → Calls Tryd.prog 54 #[exVal k a n nm off s, .int .i64 1, .int .i64 (g + 1)] w1 fun e w' => e = .returned (.string t1) ∧ Below w1.heap.size w1 w') :
    Calls Tryd.prog 55 #[exVal k a n nm off s] w fun e w' => e = .returned (.string (t0 ++ ⟨#[32]⟩ ++ nm ++ ⟨#[32]⟩ ++ t1)) ∧ Below w.heap.size w w' := by
    have HG := Lib.hid hg; clear hg
    have H1 := Lib.hid h1; clear h1
    have H0 := Lib.hid h0; clear h0
    have hwr : IntKind.i64.wrap (g + 1) = g + 1 := IntWalk.i64_in _ (by omega)
    have hgb : (g == 5) = false := by simpa using hg5
    clear hg5
    have f1 : ¬ 9223372036854775807 < t0.size + 1 := by omega
    have f2 : ¬ 9223372036854775807 < t0.size + 1 + nm.size := by omega
    have f3 : ¬ 9223372036854775807 < t0.size + 1 + nm.size + 1 := by omega
    have f4 : ¬ 9223372036854775807 < t0.size + 1 + nm.size + 1 + t1.size := by omega
    go_enter Tryd.func55, Tryd.ntmps55
    go_wp2_with (go_at_call 87; refine (signBinds_any _ _).mono ?_; rintro e w' ⟨rfl, rfl⟩; rw [HG.out])
    generalize hW : w.alloc _ = W0
    have hs : w.heap.size < W0.heap.size := by rw [← hW]; simp
    have c0 : W0.cell? ⟨w.heap.size, 0, none⟩ = some (.int .i64 k) := by rw [← hW]; simp
    have c1 : W0.cell? ⟨w.heap.size, 1, none⟩ = some (.int .i64 a) := by rw [← hW]; simp
    have c2 : W0.cell? ⟨w.heap.size, 2, none⟩ = some (.int .i64 n) := by rw [← hW]; simp
    have c3 : W0.cell? ⟨w.heap.size, 3, none⟩ = some (.string nm) := by rw [← hW]; simp
    have c4 : W0.cell? ⟨w.heap.size, 4, none⟩ = some (.bool off) := by rw [← hW]; simp
    have c5 : W0.cell? ⟨w.heap.size, 5, none⟩ = some s := by rw [← hW]; simp
    have HW := Lib.hid hW; clear hW
    have hbS : ∀ w', w'.cell? ⟨w.heap.size, 0, none⟩ = some (.int .i64 k) ∧ w'.cell? ⟨w.heap.size, 1, none⟩ = some (.int .i64 a) ∧ w'.cell? ⟨w.heap.size, 2, none⟩ = some (.int .i64 n) ∧ w'.cell? ⟨w.heap.size, 3, none⟩ = some (.string nm) ∧ w'.cell? ⟨w.heap.size, 4, none⟩ = some (.bool off) ∧ w'.cell? ⟨w.heap.size, 5, none⟩ = some s ∧ Below W0.heap.size W0 w' → Below w.heap.size w w' := fun w' h => below_box HW.out h.2.2.2.2.2.2
    have HB := Lib.hid hbS; clear hbS
    go_region_held3 (fun w' => w'.cell? ⟨w.heap.size, 0, none⟩ = some (.int .i64 k) ∧ w'.cell? ⟨w.heap.size, 1, none⟩ = some (.int .i64 a) ∧ w'.cell? ⟨w.heap.size, 2, none⟩ = some (.int .i64 n) ∧ w'.cell? ⟨w.heap.size, 3, none⟩ = some (.string nm) ∧ w'.cell? ⟨w.heap.size, 4, none⟩ = some (.bool off) ∧ w'.cell? ⟨w.heap.size, 5, none⟩ = some s ∧ Below W0.heap.size W0 w')
      (first | exact ⟨c0, c1, c2, c3, c4, c5, (Below.refl _ _).drew⟩ | (refine box_keep hs ?_ hb2; assumption))
      (first | (go_at_call 54; with_reducible refine (H0.out _ (HB.out _ ?_)).mono ?_; assumption; rintro e w2 ⟨rfl, hb2⟩) | (go_at_call 54; with_reducible refine (H1.out _ (HB.out _ ?_)).mono ?_; assumption; rintro e w2 ⟨rfl, hb2⟩))
    go_wp2
    go_ret
    exact ⟨rfl, HB.out _ (by assumption)⟩

theorem signB_range (s : ByteArray) : 2 ≤ signB s ∧ signB s ≤ 7 := by
  unfold signB
  repeat' (split; · omega)
  omega
/-- BinaryText, whichever sign. -/
theorem binaryText_of (k a n : Int) (nm : ByteArray) (off : Bool) (s : Value) (t0 t1 : ByteArray) (w : World)
    (hnm : nm.size ≤ 1000) (ht0 : t0.size ≤ 100000000) (ht1 : t1.size ≤ 100000000)
    (h0 : ∀ w1, Below w.heap.size w w1 → Calls Tryd.prog 54 #[exVal k a n nm off s, .int .i64 0, .int .i64 (if signB nm = 5 then 6 else signB nm)] w1 fun e w' => e = .returned (.string t0) ∧ Below w1.heap.size w1 w')
    (h1 : ∀ w1, Below w.heap.size w w1 → Calls Tryd.prog 54 #[exVal k a n nm off s, .int .i64 1, .int .i64 (signB nm + 1)] w1 fun e w' => e = .returned (.string t1) ∧ Below w1.heap.size w1 w') :
    Calls Tryd.prog 55 #[exVal k a n nm off s] w fun e w' => e = .returned (.string (t0 ++ ⟨#[32]⟩ ++ nm ++ ⟨#[32]⟩ ++ t1)) ∧ Below w.heap.size w w' := by
  by_cases g5 : signB nm = 5
  · rw [if_pos g5] at h0
    rw [g5] at h1
    exact binaryText_five k a n nm off s t0 t1 w g5 hnm ht0 ht1 h0 h1
  · rw [if_neg g5] at h0
    exact binaryText_other k a n nm off s t0 t1 w _ rfl (signB_range nm).1 (signB_range nm).2 g5 hnm ht0 ht1 h0 h1
end Go.Proofs.YthhkjjdhecpmlaaDoor
