/-
  The contracts of Text for the kinds If, Arrow, Fby, When, Merge, out of what is known of the kids.
-/
import Derived.Test.YthhkjjdhecpmlaaDoorTrE
namespace Go.Proofs.YthhkjjdhecpmlaaDoor
open Go.RowKit
set_option linter.unusedVariables false
set_option linter.unusedSimpArgs false
theorem when_false (nm : ByteArray) (w : World) (hnm : nm.size ≤ 1000000) :
    Calls Tryd.prog 56 #[.string nm, .bool false] w fun e w' => e = .returned (.string (⟨#[32, 119, 104, 101, 110, 32]⟩ ++ nm)) ∧ w' = w := by
  simpa using whenText_any nm false w hnm
theorem when_true (nm : ByteArray) (w : World) (hnm : nm.size ≤ 1000000) :
    Calls Tryd.prog 56 #[.string nm, .bool true] w fun e w' => e = .returned (.string (⟨#[32, 119, 104, 101, 110, 32, 110, 111, 116, 32]⟩ ++ nm)) ∧ w' = w := by
  simpa using whenText_any nm true w hnm
set_option maxHeartbeats 1000000 in
theorem text_when (a n : Int) (nm : ByteArray) (s : Value) (t0 : ByteArray) (w : World) (hnm : nm.size ≤ 1000000) (ht0 : t0.size ≤ 100000000)
    (h0 : KidAt w (exVal 11 a n nm false s) 0 9 t0) :
    Calls Tryd.prog 24 #[exVal 11 a n nm false s] w fun e w' => e = .returned (.string (t0 ++ (⟨#[32, 119, 104, 101, 110, 32]⟩ ++ nm))) ∧ Below w.heap.size w w' := by
    have H0 := Lib.hid h0; clear h0
    have f1 : ¬ 9223372036854775807 < t0.size + (6 + nm.size) := by omega
    go_enter Tryd.func24, Tryd.ntmps24
    go_wp2
    generalize hW : w.alloc _ = W0
    have hs : w.heap.size < W0.heap.size := by rw [← hW]; simp
    have c0 : W0.cell? ⟨w.heap.size, 0, none⟩ = some (.int .i64 11) := by rw [← hW]; simp
    have c1 : W0.cell? ⟨w.heap.size, 1, none⟩ = some (.int .i64 a) := by rw [← hW]; simp
    have c2 : W0.cell? ⟨w.heap.size, 2, none⟩ = some (.int .i64 n) := by rw [← hW]; simp
    have c3 : W0.cell? ⟨w.heap.size, 3, none⟩ = some (.string nm) := by rw [← hW]; simp
    have c4 : W0.cell? ⟨w.heap.size, 4, none⟩ = some (.bool false) := by rw [← hW]; simp
    have c5 : W0.cell? ⟨w.heap.size, 5, none⟩ = some s := by rw [← hW]; simp
    have HW := Lib.hid hW; clear hW
    have hbS : ∀ w', w'.cell? ⟨w.heap.size, 0, none⟩ = some (.int .i64 11) ∧ w'.cell? ⟨w.heap.size, 1, none⟩ = some (.int .i64 a) ∧ w'.cell? ⟨w.heap.size, 2, none⟩ = some (.int .i64 n) ∧ w'.cell? ⟨w.heap.size, 3, none⟩ = some (.string nm) ∧ w'.cell? ⟨w.heap.size, 4, none⟩ = some (.bool false) ∧ w'.cell? ⟨w.heap.size, 5, none⟩ = some s ∧ Below W0.heap.size W0 w' → Below w.heap.size w w' := fun w' h => below_box HW.out h.2.2.2.2.2.2
    have HB := Lib.hid hbS; clear hbS
    go_region_held3 (fun w' => w'.cell? ⟨w.heap.size, 0, none⟩ = some (.int .i64 11) ∧ w'.cell? ⟨w.heap.size, 1, none⟩ = some (.int .i64 a) ∧ w'.cell? ⟨w.heap.size, 2, none⟩ = some (.int .i64 n) ∧ w'.cell? ⟨w.heap.size, 3, none⟩ = some (.string nm) ∧ w'.cell? ⟨w.heap.size, 4, none⟩ = some (.bool false) ∧ w'.cell? ⟨w.heap.size, 5, none⟩ = some s ∧ Below W0.heap.size W0 w')
      (first | exact ⟨c0, c1, c2, c3, c4, c5, (Below.refl _ _).drew⟩ | (refine box_keep hs ?_ hb2; assumption) | assumption)
      (first | (go_at_call 54; with_reducible refine (H0.out _ (HB.out _ ?_)).mono ?_; assumption; rintro e w2 ⟨rfl, hb2⟩) | (go_at_call 56; with_reducible refine (when_false nm _ hnm).mono ?_; rintro e w2 ⟨rfl, rfl⟩))
    go_wp2
    go_ret
    exact ⟨rfl, HB.out _ (by assumption)⟩

set_option maxHeartbeats 1000000 in
theorem text_whennot (a n : Int) (nm : ByteArray) (s : Value) (t0 : ByteArray) (w : World) (hnm : nm.size ≤ 1000000) (ht0 : t0.size ≤ 100000000)
    (h0 : KidAt w (exVal 11 a n nm true s) 0 9 t0) :
    Calls Tryd.prog 24 #[exVal 11 a n nm true s] w fun e w' => e = .returned (.string (t0 ++ (⟨#[32, 119, 104, 101, 110, 32, 110, 111, 116, 32]⟩ ++ nm))) ∧ Below w.heap.size w w' := by
    have H0 := Lib.hid h0; clear h0
    have f1 : ¬ 9223372036854775807 < t0.size + (10 + nm.size) := by omega
    go_enter Tryd.func24, Tryd.ntmps24
    go_wp2
    generalize hW : w.alloc _ = W0
    have hs : w.heap.size < W0.heap.size := by rw [← hW]; simp
    have c0 : W0.cell? ⟨w.heap.size, 0, none⟩ = some (.int .i64 11) := by rw [← hW]; simp
    have c1 : W0.cell? ⟨w.heap.size, 1, none⟩ = some (.int .i64 a) := by rw [← hW]; simp
    have c2 : W0.cell? ⟨w.heap.size, 2, none⟩ = some (.int .i64 n) := by rw [← hW]; simp
    have c3 : W0.cell? ⟨w.heap.size, 3, none⟩ = some (.string nm) := by rw [← hW]; simp
    have c4 : W0.cell? ⟨w.heap.size, 4, none⟩ = some (.bool true) := by rw [← hW]; simp
    have c5 : W0.cell? ⟨w.heap.size, 5, none⟩ = some s := by rw [← hW]; simp
    have HW := Lib.hid hW; clear hW
    have hbS : ∀ w', w'.cell? ⟨w.heap.size, 0, none⟩ = some (.int .i64 11) ∧ w'.cell? ⟨w.heap.size, 1, none⟩ = some (.int .i64 a) ∧ w'.cell? ⟨w.heap.size, 2, none⟩ = some (.int .i64 n) ∧ w'.cell? ⟨w.heap.size, 3, none⟩ = some (.string nm) ∧ w'.cell? ⟨w.heap.size, 4, none⟩ = some (.bool true) ∧ w'.cell? ⟨w.heap.size, 5, none⟩ = some s ∧ Below W0.heap.size W0 w' → Below w.heap.size w w' := fun w' h => below_box HW.out h.2.2.2.2.2.2
    have HB := Lib.hid hbS; clear hbS
    go_region_held3 (fun w' => w'.cell? ⟨w.heap.size, 0, none⟩ = some (.int .i64 11) ∧ w'.cell? ⟨w.heap.size, 1, none⟩ = some (.int .i64 a) ∧ w'.cell? ⟨w.heap.size, 2, none⟩ = some (.int .i64 n) ∧ w'.cell? ⟨w.heap.size, 3, none⟩ = some (.string nm) ∧ w'.cell? ⟨w.heap.size, 4, none⟩ = some (.bool true) ∧ w'.cell? ⟨w.heap.size, 5, none⟩ = some s ∧ Below W0.heap.size W0 w')
      (first | exact ⟨c0, c1, c2, c3, c4, c5, (Below.refl _ _).drew⟩ | (refine box_keep hs ?_ hb2; assumption) | assumption)
      (first | (go_at_call 54; with_reducible refine (H0.out _ (HB.out _ ?_)).mono ?_; assumption; rintro e w2 ⟨rfl, hb2⟩) | (go_at_call 56; with_reducible refine (when_true nm _ hnm).mono ?_; rintro e w2 ⟨rfl, rfl⟩))
    go_wp2
    go_ret
    exact ⟨rfl, HB.out _ (by assumption)⟩

set_option maxHeartbeats 1000000 in
theorem text_arrow (a n : Int) (nm : ByteArray) (off : Bool) (s : Value) (t0 t1 : ByteArray) (w : World) (hnm : nm.size ≤ 1000000) (ht0 : t0.size ≤ 100000000) (ht1 : t1.size ≤ 100000000)
    (h0 : KidAt w (exVal 8 a n nm off s) 0 2 t0)
    (h1 : KidAt w (exVal 8 a n nm off s) 1 1 t1) :
    Calls Tryd.prog 24 #[exVal 8 a n nm off s] w fun e w' => e = .returned (.string (t0 ++ ⟨#[32, 45, 62, 32]⟩ ++ t1)) ∧ Below w.heap.size w w' := by
    have H0 := Lib.hid h0; have H1 := Lib.hid h1; clear h0 h1
    have f2 : ¬ 9223372036854775807 < t0.size + 4 := by omega
    have f3 : ¬ 9223372036854775807 < t0.size + 4 + t1.size := by omega
    go_enter Tryd.func24, Tryd.ntmps24
    go_wp2
    generalize hW : w.alloc _ = W0
    have hs : w.heap.size < W0.heap.size := by rw [← hW]; simp
    have c0 : W0.cell? ⟨w.heap.size, 0, none⟩ = some (.int .i64 8) := by rw [← hW]; simp
    have c1 : W0.cell? ⟨w.heap.size, 1, none⟩ = some (.int .i64 a) := by rw [← hW]; simp
    have c2 : W0.cell? ⟨w.heap.size, 2, none⟩ = some (.int .i64 n) := by rw [← hW]; simp
    have c3 : W0.cell? ⟨w.heap.size, 3, none⟩ = some (.string nm) := by rw [← hW]; simp
    have c4 : W0.cell? ⟨w.heap.size, 4, none⟩ = some (.bool off) := by rw [← hW]; simp
    have c5 : W0.cell? ⟨w.heap.size, 5, none⟩ = some s := by rw [← hW]; simp
    have HW := Lib.hid hW; clear hW
    have hbS : ∀ w', w'.cell? ⟨w.heap.size, 0, none⟩ = some (.int .i64 8) ∧ w'.cell? ⟨w.heap.size, 1, none⟩ = some (.int .i64 a) ∧ w'.cell? ⟨w.heap.size, 2, none⟩ = some (.int .i64 n) ∧ w'.cell? ⟨w.heap.size, 3, none⟩ = some (.string nm) ∧ w'.cell? ⟨w.heap.size, 4, none⟩ = some (.bool off) ∧ w'.cell? ⟨w.heap.size, 5, none⟩ = some s ∧ Below W0.heap.size W0 w' → Below w.heap.size w w' := fun w' h => below_box HW.out h.2.2.2.2.2.2
    have HB := Lib.hid hbS; clear hbS
    go_region_held3 (fun w' => w'.cell? ⟨w.heap.size, 0, none⟩ = some (.int .i64 8) ∧ w'.cell? ⟨w.heap.size, 1, none⟩ = some (.int .i64 a) ∧ w'.cell? ⟨w.heap.size, 2, none⟩ = some (.int .i64 n) ∧ w'.cell? ⟨w.heap.size, 3, none⟩ = some (.string nm) ∧ w'.cell? ⟨w.heap.size, 4, none⟩ = some (.bool off) ∧ w'.cell? ⟨w.heap.size, 5, none⟩ = some s ∧ Below W0.heap.size W0 w')
      (first | exact ⟨c0, c1, c2, c3, c4, c5, (Below.refl _ _).drew⟩ | (refine box_keep hs ?_ hb2; assumption) | assumption)
      (first | (go_at_call 54; with_reducible refine (H0.out _ (HB.out _ ?_)).mono ?_; assumption; rintro e w2 ⟨rfl, hb2⟩) | (go_at_call 54; with_reducible refine (H1.out _ (HB.out _ ?_)).mono ?_; assumption; rintro e w2 ⟨rfl, hb2⟩))
    go_wp2
    go_ret
    exact ⟨rfl, HB.out _ (by assumption)⟩

set_option maxHeartbeats 1000000 in
theorem text_fby (a n : Int) (nm : ByteArray) (off : Bool) (s : Value) (t0 t1 : ByteArray) (w : World) (hnm : nm.size ≤ 1000000) (ht0 : t0.size ≤ 100000000) (ht1 : t1.size ≤ 100000000)
    (h0 : KidAt w (exVal 9 a n nm off s) 0 0 t0)
    (h1 : KidAt w (exVal 9 a n nm off s) 1 1 t1) :
    Calls Tryd.prog 24 #[exVal 9 a n nm off s] w fun e w' => e = .returned (.string (t0 ++ ⟨#[32, 102, 98, 121, 32]⟩ ++ t1)) ∧ Below w.heap.size w w' := by
    have H0 := Lib.hid h0; have H1 := Lib.hid h1; clear h0 h1
    have f2 : ¬ 9223372036854775807 < t0.size + 5 := by omega
    have f3 : ¬ 9223372036854775807 < t0.size + 5 + t1.size := by omega
    go_enter Tryd.func24, Tryd.ntmps24
    go_wp2
    generalize hW : w.alloc _ = W0
    have hs : w.heap.size < W0.heap.size := by rw [← hW]; simp
    have c0 : W0.cell? ⟨w.heap.size, 0, none⟩ = some (.int .i64 9) := by rw [← hW]; simp
    have c1 : W0.cell? ⟨w.heap.size, 1, none⟩ = some (.int .i64 a) := by rw [← hW]; simp
    have c2 : W0.cell? ⟨w.heap.size, 2, none⟩ = some (.int .i64 n) := by rw [← hW]; simp
    have c3 : W0.cell? ⟨w.heap.size, 3, none⟩ = some (.string nm) := by rw [← hW]; simp
    have c4 : W0.cell? ⟨w.heap.size, 4, none⟩ = some (.bool off) := by rw [← hW]; simp
    have c5 : W0.cell? ⟨w.heap.size, 5, none⟩ = some s := by rw [← hW]; simp
    have HW := Lib.hid hW; clear hW
    have hbS : ∀ w', w'.cell? ⟨w.heap.size, 0, none⟩ = some (.int .i64 9) ∧ w'.cell? ⟨w.heap.size, 1, none⟩ = some (.int .i64 a) ∧ w'.cell? ⟨w.heap.size, 2, none⟩ = some (.int .i64 n) ∧ w'.cell? ⟨w.heap.size, 3, none⟩ = some (.string nm) ∧ w'.cell? ⟨w.heap.size, 4, none⟩ = some (.bool off) ∧ w'.cell? ⟨w.heap.size, 5, none⟩ = some s ∧ Below W0.heap.size W0 w' → Below w.heap.size w w' := fun w' h => below_box HW.out h.2.2.2.2.2.2
    have HB := Lib.hid hbS; clear hbS
    go_region_held3 (fun w' => w'.cell? ⟨w.heap.size, 0, none⟩ = some (.int .i64 9) ∧ w'.cell? ⟨w.heap.size, 1, none⟩ = some (.int .i64 a) ∧ w'.cell? ⟨w.heap.size, 2, none⟩ = some (.int .i64 n) ∧ w'.cell? ⟨w.heap.size, 3, none⟩ = some (.string nm) ∧ w'.cell? ⟨w.heap.size, 4, none⟩ = some (.bool off) ∧ w'.cell? ⟨w.heap.size, 5, none⟩ = some s ∧ Below W0.heap.size W0 w')
      (first | exact ⟨c0, c1, c2, c3, c4, c5, (Below.refl _ _).drew⟩ | (refine box_keep hs ?_ hb2; assumption) | assumption)
      (first | (go_at_call 54; with_reducible refine (H0.out _ (HB.out _ ?_)).mono ?_; assumption; rintro e w2 ⟨rfl, hb2⟩) | (go_at_call 54; with_reducible refine (H1.out _ (HB.out _ ?_)).mono ?_; assumption; rintro e w2 ⟨rfl, hb2⟩))
    go_wp2
    go_ret
    exact ⟨rfl, HB.out _ (by assumption)⟩

set_option maxHeartbeats 1000000 in
theorem text_if (a n : Int) (nm : ByteArray) (off : Bool) (s : Value) (t0 t1 t2 : ByteArray) (w : World) (hnm : nm.size ≤ 1000000) (ht0 : t0.size ≤ 100000000) (ht1 : t1.size ≤ 100000000) (ht2 : t2.size ≤ 100000000)
    (h0 : KidAt w (exVal 7 a n nm off s) 0 0 t0)
    (h1 : KidAt w (exVal 7 a n nm off s) 1 0 t1)
    (h2 : KidAt w (exVal 7 a n nm off s) 2 0 t2) :
    Calls Tryd.prog 24 #[exVal 7 a n nm off s] w fun e w' => e = .returned (.string (⟨#[105, 102, 32]⟩ ++ t0 ++ ⟨#[32, 116, 104, 101, 110, 32]⟩ ++ t1 ++ ⟨#[32, 101, 108, 115, 101, 32]⟩ ++ t2)) ∧ Below w.heap.size w w' := by
    have H0 := Lib.hid h0; have H1 := Lib.hid h1; have H2 := Lib.hid h2; clear h0 h1 h2
    have f2 : ¬ 9223372036854775807 < 3 + t0.size := by omega
    have f3 : ¬ 9223372036854775807 < 3 + t0.size + 6 := by omega
    have f4 : ¬ 9223372036854775807 < 3 + t0.size + 6 + t1.size := by omega
    have f5 : ¬ 9223372036854775807 < 3 + t0.size + 6 + t1.size + 6 := by omega
    have f6 : ¬ 9223372036854775807 < 3 + t0.size + 6 + t1.size + 6 + t2.size := by omega
    go_enter Tryd.func24, Tryd.ntmps24
    go_wp2
    generalize hW : w.alloc _ = W0
    have hs : w.heap.size < W0.heap.size := by rw [← hW]; simp
    have c0 : W0.cell? ⟨w.heap.size, 0, none⟩ = some (.int .i64 7) := by rw [← hW]; simp
    have c1 : W0.cell? ⟨w.heap.size, 1, none⟩ = some (.int .i64 a) := by rw [← hW]; simp
    have c2 : W0.cell? ⟨w.heap.size, 2, none⟩ = some (.int .i64 n) := by rw [← hW]; simp
    have c3 : W0.cell? ⟨w.heap.size, 3, none⟩ = some (.string nm) := by rw [← hW]; simp
    have c4 : W0.cell? ⟨w.heap.size, 4, none⟩ = some (.bool off) := by rw [← hW]; simp
    have c5 : W0.cell? ⟨w.heap.size, 5, none⟩ = some s := by rw [← hW]; simp
    have HW := Lib.hid hW; clear hW
    have hbS : ∀ w', w'.cell? ⟨w.heap.size, 0, none⟩ = some (.int .i64 7) ∧ w'.cell? ⟨w.heap.size, 1, none⟩ = some (.int .i64 a) ∧ w'.cell? ⟨w.heap.size, 2, none⟩ = some (.int .i64 n) ∧ w'.cell? ⟨w.heap.size, 3, none⟩ = some (.string nm) ∧ w'.cell? ⟨w.heap.size, 4, none⟩ = some (.bool off) ∧ w'.cell? ⟨w.heap.size, 5, none⟩ = some s ∧ Below W0.heap.size W0 w' → Below w.heap.size w w' := fun w' h => below_box HW.out h.2.2.2.2.2.2
    have HB := Lib.hid hbS; clear hbS
    go_region_held3 (fun w' => w'.cell? ⟨w.heap.size, 0, none⟩ = some (.int .i64 7) ∧ w'.cell? ⟨w.heap.size, 1, none⟩ = some (.int .i64 a) ∧ w'.cell? ⟨w.heap.size, 2, none⟩ = some (.int .i64 n) ∧ w'.cell? ⟨w.heap.size, 3, none⟩ = some (.string nm) ∧ w'.cell? ⟨w.heap.size, 4, none⟩ = some (.bool off) ∧ w'.cell? ⟨w.heap.size, 5, none⟩ = some s ∧ Below W0.heap.size W0 w')
      (first | exact ⟨c0, c1, c2, c3, c4, c5, (Below.refl _ _).drew⟩ | (refine box_keep hs ?_ hb2; assumption) | assumption)
      (first | (go_at_call 54; with_reducible refine (H0.out _ (HB.out _ ?_)).mono ?_; assumption; rintro e w2 ⟨rfl, hb2⟩) | (go_at_call 54; with_reducible refine (H1.out _ (HB.out _ ?_)).mono ?_; assumption; rintro e w2 ⟨rfl, hb2⟩) | (go_at_call 54; with_reducible refine (H2.out _ (HB.out _ ?_)).mono ?_; assumption; rintro e w2 ⟨rfl, hb2⟩))
    go_wp2
    go_ret
    exact ⟨rfl, HB.out _ (by assumption)⟩

set_option maxHeartbeats 1000000 in
theorem text_merge (a n : Int) (nm : ByteArray) (off : Bool) (s : Value) (t0 t1 : ByteArray) (w : World) (hnm : nm.size ≤ 1000000) (ht0 : t0.size ≤ 100000000) (ht1 : t1.size ≤ 100000000)
    (h0 : KidAt w (exVal 12 a n nm off s) 0 0 t0)
    (h1 : KidAt w (exVal 12 a n nm off s) 1 0 t1) :
    Calls Tryd.prog 24 #[exVal 12 a n nm off s] w fun e w' => e = .returned (.string (⟨#[109, 101, 114, 103, 101, 32]⟩ ++ nm ++ ⟨#[32, 40]⟩ ++ t0 ++ ⟨#[41, 32, 40]⟩ ++ t1 ++ ⟨#[41]⟩)) ∧ Below w.heap.size w w' := by
    have H0 := Lib.hid h0; have H1 := Lib.hid h1; clear h0 h1
    have f2 : ¬ 9223372036854775807 < 6 + nm.size := by omega
    have f3 : ¬ 9223372036854775807 < 6 + nm.size + 2 := by omega
    have f4 : ¬ 9223372036854775807 < 6 + nm.size + 2 + t0.size := by omega
    have f5 : ¬ 9223372036854775807 < 6 + nm.size + 2 + t0.size + 3 := by omega
    have f6 : ¬ 9223372036854775807 < 6 + nm.size + 2 + t0.size + 3 + t1.size := by omega
    have f7 : ¬ 9223372036854775807 < 6 + nm.size + 2 + t0.size + 3 + t1.size + 1 := by omega
    go_enter Tryd.func24, Tryd.ntmps24
    go_wp2
    generalize hW : w.alloc _ = W0
    have hs : w.heap.size < W0.heap.size := by rw [← hW]; simp
    have c0 : W0.cell? ⟨w.heap.size, 0, none⟩ = some (.int .i64 12) := by rw [← hW]; simp
    have c1 : W0.cell? ⟨w.heap.size, 1, none⟩ = some (.int .i64 a) := by rw [← hW]; simp
    have c2 : W0.cell? ⟨w.heap.size, 2, none⟩ = some (.int .i64 n) := by rw [← hW]; simp
    have c3 : W0.cell? ⟨w.heap.size, 3, none⟩ = some (.string nm) := by rw [← hW]; simp
    have c4 : W0.cell? ⟨w.heap.size, 4, none⟩ = some (.bool off) := by rw [← hW]; simp
    have c5 : W0.cell? ⟨w.heap.size, 5, none⟩ = some s := by rw [← hW]; simp
    have HW := Lib.hid hW; clear hW
    have hbS : ∀ w', w'.cell? ⟨w.heap.size, 0, none⟩ = some (.int .i64 12) ∧ w'.cell? ⟨w.heap.size, 1, none⟩ = some (.int .i64 a) ∧ w'.cell? ⟨w.heap.size, 2, none⟩ = some (.int .i64 n) ∧ w'.cell? ⟨w.heap.size, 3, none⟩ = some (.string nm) ∧ w'.cell? ⟨w.heap.size, 4, none⟩ = some (.bool off) ∧ w'.cell? ⟨w.heap.size, 5, none⟩ = some s ∧ Below W0.heap.size W0 w' → Below w.heap.size w w' := fun w' h => below_box HW.out h.2.2.2.2.2.2
    have HB := Lib.hid hbS; clear hbS
    go_region_held3 (fun w' => w'.cell? ⟨w.heap.size, 0, none⟩ = some (.int .i64 12) ∧ w'.cell? ⟨w.heap.size, 1, none⟩ = some (.int .i64 a) ∧ w'.cell? ⟨w.heap.size, 2, none⟩ = some (.int .i64 n) ∧ w'.cell? ⟨w.heap.size, 3, none⟩ = some (.string nm) ∧ w'.cell? ⟨w.heap.size, 4, none⟩ = some (.bool off) ∧ w'.cell? ⟨w.heap.size, 5, none⟩ = some s ∧ Below W0.heap.size W0 w')
      (first | exact ⟨c0, c1, c2, c3, c4, c5, (Below.refl _ _).drew⟩ | (refine box_keep hs ?_ hb2; assumption) | assumption)
      (first | (go_at_call 54; with_reducible refine (H0.out _ (HB.out _ ?_)).mono ?_; assumption; rintro e w2 ⟨rfl, hb2⟩) | (go_at_call 54; with_reducible refine (H1.out _ (HB.out _ ?_)).mono ?_; assumption; rintro e w2 ⟨rfl, hb2⟩))
    go_wp2
    go_ret
    exact ⟨rfl, HB.out _ (by assumption)⟩

end Go.Proofs.YthhkjjdhecpmlaaDoor
