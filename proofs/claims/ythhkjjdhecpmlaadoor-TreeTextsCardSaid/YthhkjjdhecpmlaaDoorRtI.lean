/-
  The reference of layer 2: the kinds of Text Binary, Call, Await.
-/
import Derived.Test.YthhkjjdhecpmlaaDoorRtH
namespace Go.Proofs.YthhkjjdhecpmlaaDoor
open Go.RowKit
set_option linter.unusedVariables false
set_option linter.unusedSimpArgs false
set_option maxHeartbeats 4000000 in
set_option maxRecDepth 100000 in
theorem rtext_five (a n : Int) (nm : ByteArray) (off : Bool) (b o len cap : Nat) (k0 a0 n0 : Int) (nm0 : ByteArray) (off0 : Bool) (s0 : Value) (k1 a1 n1 : Int) (nm1 : ByteArray) (off1 : Bool) (s1 : Value)
    (t0 t1 : ByteArray) (w : World) (hg : signB nm = 5) (hl : len = 2) (hb : b < w.heap.size) (hnm : nm.size ≤ 1000000) (ht0 : t0.size ≤ 100000000) (ht1 : t1.size ≤ 100000000)
    (hs0 : Six w b o (.int .i64 k0) (.int .i64 a0) (.int .i64 n0) (.string nm0) (.bool off0) s0)
    (hs1 : Six w b (o + 6) (.int .i64 k1) (.int .i64 a1) (.int .i64 n1) (.string nm1) (.bool off1) s1)
    (h0 : RKidAt w (exVal k0 a0 n0 nm0 off0 s0) 6 t0) (h1 : RKidAt w (exVal k1 a1 n1 nm1 off1 s1) 6 t1) :
    Calls Tryd.prog 25 #[exVal 6 a n nm off (.slice (some ⟨b, o, none⟩) len cap)] w fun e w' => e = .returned (.string (t0 ++ ⟨#[32]⟩ ++ nm ++ ⟨#[32]⟩ ++ t1)) ∧ Below w.heap.size w w' := by
  subst hl
  have H0 := Lib.hid h0; have H1 := Lib.hid h1; clear h0 h1
  have HG := Lib.hid hg; clear hg
  have hwr : IntKind.i64.wrap 6 = 6 := by decide
  have f1 : ¬ 9223372036854775807 < t0.size + 1 := by omega
  have f2 : ¬ 9223372036854775807 < t0.size + 1 + nm.size := by omega
  have f3 : ¬ 9223372036854775807 < t0.size + 1 + nm.size + 1 := by omega
  have f4 : ¬ 9223372036854775807 < t0.size + 1 + nm.size + 1 + t1.size := by omega
  go_enter Tryd.func25, Tryd.ntmps25
  go_wp2_with fail
  refine (rbinds_sign _ _ _ _ _ _).mono ?_
  rintro e W0 ⟨rfl, hb1⟩
  rw [HG.out]
  have hbw : Below w.heap.size w W0 := ((Below.refl _ _).alloc (Nat.le_refl _) _).trans (hb1.mono (by simp))
  have hbx : Six W0 w.heap.size 0 (.int .i64 6) (.int .i64 a) (.int .i64 n) (.string nm) (.bool off) (.slice (some ⟨b, o, none⟩) 2 cap) := (rbox rfl).2.1.below hb1 (by simp)
  have hz : w.heap.size < W0.heap.size := by have := hb1.size; simp at this; omega
  clear hb1
  have x5 := keep_cell (o := 5) (by omega) (six_parts hbx).2.2.2.2.2
  have x3 := keep_cell (o := 3) (by omega) (six_parts hbx).2.2.2.1
  have y0 := keep_six (by omega) (hs0.below hbw hb)
  have y1 := keep_six (by omega) (hs1.below hbw hb)
  clear hs0 hs1 hbx hz
  go_wp2_with fail
  go_region_held3 (fun w' => Below W0.heap.size W0 w')
    (first | exact (Below.refl _ _).drew | (refine Below.trans ?_ (hb2.mono ?_); assumption; exact Below.size (by assumption)) | assumption)
    (first | (go_at_call 60; with_reducible refine (H0.out _ (hbw.trans (Below.mono ?_ hbw.size))).mono ?_; assumption; rintro e w2 ⟨rfl, hb2⟩) | (go_at_call 60; with_reducible refine (H1.out _ (hbw.trans (Below.mono ?_ hbw.size))).mono ?_; assumption; rintro e w2 ⟨rfl, hb2⟩))
  go_wp2
  go_ret
  exact ⟨rfl, hbw.trans (Below.mono (by assumption) hbw.size)⟩
set_option maxHeartbeats 4000000 in
set_option maxRecDepth 100000 in
theorem rtext_other (a n : Int) (nm : ByteArray) (off : Bool) (b o len cap : Nat) (k0 a0 n0 : Int) (nm0 : ByteArray) (off0 : Bool) (s0 : Value) (k1 a1 n1 : Int) (nm1 : ByteArray) (off1 : Bool) (s1 : Value)
    (t0 t1 : ByteArray) (w : World) (g : Int) (hg : signB nm = g) (hg1 : 2 ≤ g) (hg2 : g ≤ 7) (hg5 : g ≠ 5) (hl : len = 2) (hb : b < w.heap.size) (hnm : nm.size ≤ 1000000) (ht0 : t0.size ≤ 100000000) (ht1 : t1.size ≤ 100000000)
    (hs0 : Six w b o (.int .i64 k0) (.int .i64 a0) (.int .i64 n0) (.string nm0) (.bool off0) s0)
    (hs1 : Six w b (o + 6) (.int .i64 k1) (.int .i64 a1) (.int .i64 n1) (.string nm1) (.bool off1) s1)
    (h0 : RKidAt w (exVal k0 a0 n0 nm0 off0 s0) g t0) (h1 : RKidAt w (exVal k1 a1 n1 nm1 off1 s1) (g + 1) t1) :
    Calls Tryd.prog 25 #[exVal 6 a n nm off (.slice (some ⟨b, o, none⟩) len cap)] w fun e w' => e = .returned (.string (t0 ++ ⟨#[32]⟩ ++ nm ++ ⟨#[32]⟩ ++ t1)) ∧ Below w.heap.size w w' := by
  subst hl
  have H0 := Lib.hid h0; have H1 := Lib.hid h1; clear h0 h1
  have HG := Lib.hid hg; clear hg
  have hwr : IntKind.i64.wrap (g + 1) = g + 1 := IntWalk.i64_in _ (by omega)
  have hgb : (g == 5) = false := by simpa using hg5
  clear hg5
  have f1 : ¬ 9223372036854775807 < t0.size + 1 := by omega
  have f2 : ¬ 9223372036854775807 < t0.size + 1 + nm.size := by omega
  have f3 : ¬ 9223372036854775807 < t0.size + 1 + nm.size + 1 := by omega
  have f4 : ¬ 9223372036854775807 < t0.size + 1 + nm.size + 1 + t1.size := by omega
  go_enter Tryd.func25, Tryd.ntmps25
  go_wp2_with fail
  refine (rbinds_sign _ _ _ _ _ _).mono ?_
  rintro e W0 ⟨rfl, hb1⟩
  rw [HG.out]
  have hbw : Below w.heap.size w W0 := ((Below.refl _ _).alloc (Nat.le_refl _) _).trans (hb1.mono (by simp))
  have hbx : Six W0 w.heap.size 0 (.int .i64 6) (.int .i64 a) (.int .i64 n) (.string nm) (.bool off) (.slice (some ⟨b, o, none⟩) 2 cap) := (rbox rfl).2.1.below hb1 (by simp)
  have hz : w.heap.size < W0.heap.size := by have := hb1.size; simp at this; omega
  clear hb1
  have x5 := keep_cell (o := 5) (by omega) (six_parts hbx).2.2.2.2.2
  have x3 := keep_cell (o := 3) (by omega) (six_parts hbx).2.2.2.1
  have y0 := keep_six (by omega) (hs0.below hbw hb)
  have y1 := keep_six (by omega) (hs1.below hbw hb)
  clear hs0 hs1 hbx hz
  go_wp2_with fail
  go_region_held3 (fun w' => Below W0.heap.size W0 w')
    (first | exact (Below.refl _ _).drew | (refine Below.trans ?_ (hb2.mono ?_); assumption; exact Below.size (by assumption)) | assumption)
    (first | (go_at_call 60; with_reducible refine (H0.out _ (hbw.trans (Below.mono ?_ hbw.size))).mono ?_; assumption; rintro e w2 ⟨rfl, hb2⟩) | (go_at_call 60; with_reducible refine (H1.out _ (hbw.trans (Below.mono ?_ hbw.size))).mono ?_; assumption; rintro e w2 ⟨rfl, hb2⟩))
  go_wp2
  go_ret
  exact ⟨rfl, hbw.trans (Below.mono (by assumption) hbw.size)⟩
/-- The row's text is known, in every world that has what there is. -/
abbrev RKidsAt (w : World) (v : Value) (t : ByteArray) : Prop :=
  ∀ w1, Below w.heap.size w w1 → Calls Tryd.prog 62 #[v] w1 fun e w' => e = .returned (.string t) ∧ Below w1.heap.size w1 w'
set_option maxHeartbeats 4000000 in
set_option maxRecDepth 100000 in
theorem rtext_call (a n : Int) (nm : ByteArray) (off : Bool) (p : Option Addr) (len cap : Nat) (t0 : ByteArray) (w : World) (hnm : nm.size ≤ 1000000) (ht0 : t0.size ≤ 100000000)
    (h0 : RKidsAt w (.slice p len cap) t0) :
    Calls Tryd.prog 25 #[exVal 13 a n nm off (.slice p len cap)] w fun e w' => e = .returned (.string (nm ++ ⟨#[40]⟩ ++ t0 ++ ⟨#[41]⟩)) ∧ Below w.heap.size w w' := by
  have H0 := Lib.hid h0; clear h0
  have f1 : ¬ 9223372036854775807 < nm.size + 1 := by omega
  have f2 : ¬ 9223372036854775807 < nm.size + 1 + t0.size := by omega
  have f3 : ¬ 9223372036854775807 < nm.size + 1 + t0.size + 1 := by omega
  go_enter Tryd.func25, Tryd.ntmps25
  go_wp2_with fail
  generalize hW : w.alloc _ = W0
  obtain ⟨hz, hbx, hbw⟩ := rbox hW
  clear hW
  have x5 := keep_cell (o := 5) (by omega) (six_parts hbx).2.2.2.2.2
  have x3 := keep_cell (o := 3) (by omega) (six_parts hbx).2.2.2.1
  have HZ := Lib.hid hz
  clear hbx hz
  go_region_held3 (fun w' => Below W0.heap.size W0 w')
    (first | exact (Below.refl _ _).drew | (refine Below.trans ?_ (hb2.mono ?_); assumption; exact Below.size (by assumption)) | assumption)
    (first | (go_at_call 62; with_reducible refine (H0.out _ (below_step hbw HZ.out ?_)).mono ?_; assumption; rintro e w2 ⟨rfl, hb2⟩))
  go_wp2
  go_ret
  exact ⟨rfl, below_step hbw HZ.out (by assumption)⟩
set_option maxHeartbeats 4000000 in
set_option maxRecDepth 100000 in
theorem rtext_await (a n : Int) (nm : ByteArray) (off : Bool) (p : Option Addr) (len cap : Nat) (t0 : ByteArray) (w : World) (hl : 0 < len) (hnm : nm.size ≤ 1000000) (ht0 : t0.size ≤ 100000000)
    (h0 : RKidsAt w (.slice p len cap) t0) :
    Calls Tryd.prog 25 #[exVal 14 a n nm off (.slice p len cap)] w fun e w' => e = .returned (.string (⟨#[97, 119, 97, 105, 116, 32]⟩ ++ nm ++ ⟨#[32, 97, 102, 116, 101, 114, 32, 40]⟩ ++ t0 ++ ⟨#[41]⟩)) ∧ Below w.heap.size w w' := by
  have H0 := Lib.hid h0; clear h0
  have f1 : ¬ 9223372036854775807 < 6 + nm.size := by omega
  have f2 : ¬ 9223372036854775807 < 6 + nm.size + 8 := by omega
  have f3 : ¬ 9223372036854775807 < 6 + nm.size + 8 + t0.size := by omega
  have f4 : ¬ 9223372036854775807 < 6 + nm.size + 8 + t0.size + 1 := by omega
  have hl1 : ((len : Int) == 0) = false := by simp; omega
  clear hl
  go_enter Tryd.func25, Tryd.ntmps25
  go_wp2_with fail
  generalize hW : w.alloc _ = W0
  obtain ⟨hz, hbx, hbw⟩ := rbox hW
  clear hW
  have x5 := keep_cell (o := 5) (by omega) (six_parts hbx).2.2.2.2.2
  have x3 := keep_cell (o := 3) (by omega) (six_parts hbx).2.2.2.1
  have HZ := Lib.hid hz
  clear hbx hz
  go_region_held3 (fun w' => Below W0.heap.size W0 w')
    (first | exact (Below.refl _ _).drew | (refine Below.trans ?_ (hb2.mono ?_); assumption; exact Below.size (by assumption)) | assumption)
    (first | (go_at_call 62; with_reducible refine (H0.out _ (below_step hbw HZ.out ?_)).mono ?_; assumption; rintro e w2 ⟨rfl, hb2⟩))
  go_wp2
  go_ret
  exact ⟨rfl, below_step hbw HZ.out (by assumption)⟩
set_option maxHeartbeats 4000000 in
set_option maxRecDepth 100000 in
theorem rtext_await0 (a n : Int) (nm : ByteArray) (off : Bool) (p : Option Addr) (cap : Nat) (w : World) (hnm : nm.size ≤ 1000000) :
    Calls Tryd.prog 25 #[exVal 14 a n nm off (.slice p 0 cap)] w fun e w' => e = .returned (.string (⟨#[97, 119, 97, 105, 116, 32]⟩ ++ nm)) ∧ Below w.heap.size w w' := by
  have f1 : ¬ 9223372036854775807 < 6 + nm.size := by omega
  go_enter Tryd.func25, Tryd.ntmps25
  go_wp2_with fail
  go_ret
  exact ⟨rfl, (Below.refl _ _).alloc (Nat.le_refl _) _⟩
end Go.Proofs.YthhkjjdhecpmlaaDoor
