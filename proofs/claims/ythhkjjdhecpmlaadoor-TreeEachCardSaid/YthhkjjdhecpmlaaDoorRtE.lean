/-
  The reference of layer 2: the kinds of Text that have kids, out of what is known of these.
-/
import Derived.Test.YthhkjjdhecpmlaaDoorRtD
namespace Go.Proofs.YthhkjjdhecpmlaaDoor
open Go.RowKit
set_option linter.unusedVariables false
set_option linter.unusedSimpArgs false
/-- A text is known, in every world that has what there is. -/
abbrev RTextW (w : World) (v : Value) (t : ByteArray) : Prop :=
  ∀ w1, Below w.heap.size w w1 → Calls Tryd.prog 25 #[v] w1 fun e w' => e = .returned (.string t) ∧ Below w1.heap.size w1 w'
set_option maxHeartbeats 4000000 in
set_option maxRecDepth 100000 in
theorem rtext_if (a n : Int) (nm : ByteArray) (off : Bool) (b o len cap : Nat) (k0 a0 n0 : Int) (nm0 : ByteArray) (off0 : Bool) (s0 : Value) (k1 a1 n1 : Int) (nm1 : ByteArray) (off1 : Bool) (s1 : Value) (k2 a2 n2 : Int) (nm2 : ByteArray) (off2 : Bool) (s2 : Value)
    (t0 t1 t2 : ByteArray) (w : World) (hl : len = 3) (hb : b < w.heap.size) (hnm : nm.size ≤ 1000000) (ht0 : t0.size ≤ 100000000) (ht1 : t1.size ≤ 100000000) (ht2 : t2.size ≤ 100000000)
    (hs0 : Six w b o (.int .i64 k0) (.int .i64 a0) (.int .i64 n0) (.string nm0) (.bool off0) s0)
    (hs1 : Six w b (o + 6) (.int .i64 k1) (.int .i64 a1) (.int .i64 n1) (.string nm1) (.bool off1) s1)
    (hs2 : Six w b (o + 12) (.int .i64 k2) (.int .i64 a2) (.int .i64 n2) (.string nm2) (.bool off2) s2)
    (h0 : RKidAt w (exVal k0 a0 n0 nm0 off0 s0) 0 t0) (h1 : RKidAt w (exVal k1 a1 n1 nm1 off1 s1) 0 t1) (h2 : RKidAt w (exVal k2 a2 n2 nm2 off2 s2) 0 t2) :
    Calls Tryd.prog 25 #[exVal 7 a n nm off (.slice (some ⟨b, o, none⟩) len cap)] w fun e w' => e = .returned (.string (⟨#[105, 102, 32]⟩ ++ t0 ++ ⟨#[32, 116, 104, 101, 110, 32]⟩ ++ t1 ++ ⟨#[32, 101, 108, 115, 101, 32]⟩ ++ t2)) ∧ Below w.heap.size w w' := by
  subst hl
  have H0 := Lib.hid h0; clear h0
  have H1 := Lib.hid h1; clear h1
  have H2 := Lib.hid h2; clear h2
  have f1 : ¬ 9223372036854775807 < 3 + t0.size := by omega
  have f2 : ¬ 9223372036854775807 < 3 + t0.size + 6 := by omega
  have f3 : ¬ 9223372036854775807 < 3 + t0.size + 6 + t1.size := by omega
  have f4 : ¬ 9223372036854775807 < 3 + t0.size + 6 + t1.size + 6 := by omega
  have f5 : ¬ 9223372036854775807 < 3 + t0.size + 6 + t1.size + 6 + t2.size := by omega
  go_enter Tryd.func25, Tryd.ntmps25
  go_wp2_with fail
  generalize hW : w.alloc _ = W0
  obtain ⟨hz, hbx, hbw⟩ := rbox hW
  clear hW
  have x5 := keep_cell (o := 5) (by omega) (six_parts hbx).2.2.2.2.2
  have y0 := keep_six (by omega) (hs0.below hbw hb)
  have y1 := keep_six (by omega) (hs1.below hbw hb)
  have y2 := keep_six (by omega) (hs2.below hbw hb)
  have HZ := Lib.hid hz
  clear hs0 hs1 hs2 hbx hz
  go_region_held3 (fun w' => Below W0.heap.size W0 w')
    (first | exact (Below.refl _ _).drew | (refine Below.trans ?_ (hb2.mono ?_); assumption; exact Below.size (by assumption)) | assumption)
    (first | (go_at_call 60; with_reducible refine (H0.out _ (below_step hbw HZ.out ?_)).mono ?_; assumption; rintro e w2 ⟨rfl, hb2⟩) | (go_at_call 60; with_reducible refine (H1.out _ (below_step hbw HZ.out ?_)).mono ?_; assumption; rintro e w2 ⟨rfl, hb2⟩) | (go_at_call 60; with_reducible refine (H2.out _ (below_step hbw HZ.out ?_)).mono ?_; assumption; rintro e w2 ⟨rfl, hb2⟩))
  go_wp2
  go_ret
  exact ⟨rfl, below_step hbw HZ.out (by assumption)⟩
set_option maxHeartbeats 4000000 in
set_option maxRecDepth 100000 in
theorem rtext_arrow (a n : Int) (nm : ByteArray) (off : Bool) (b o len cap : Nat) (k0 a0 n0 : Int) (nm0 : ByteArray) (off0 : Bool) (s0 : Value) (k1 a1 n1 : Int) (nm1 : ByteArray) (off1 : Bool) (s1 : Value)
    (t0 t1 : ByteArray) (w : World) (hl : len = 2) (hb : b < w.heap.size) (hnm : nm.size ≤ 1000000) (ht0 : t0.size ≤ 100000000) (ht1 : t1.size ≤ 100000000)
    (hs0 : Six w b o (.int .i64 k0) (.int .i64 a0) (.int .i64 n0) (.string nm0) (.bool off0) s0)
    (hs1 : Six w b (o + 6) (.int .i64 k1) (.int .i64 a1) (.int .i64 n1) (.string nm1) (.bool off1) s1)
    (h0 : RKidAt w (exVal k0 a0 n0 nm0 off0 s0) 2 t0) (h1 : RKidAt w (exVal k1 a1 n1 nm1 off1 s1) 1 t1) :
    Calls Tryd.prog 25 #[exVal 8 a n nm off (.slice (some ⟨b, o, none⟩) len cap)] w fun e w' => e = .returned (.string (t0 ++ ⟨#[32, 45, 62, 32]⟩ ++ t1)) ∧ Below w.heap.size w w' := by
  subst hl
  have H0 := Lib.hid h0; clear h0
  have H1 := Lib.hid h1; clear h1
  have f1 : ¬ 9223372036854775807 < t0.size + 4 := by omega
  have f2 : ¬ 9223372036854775807 < t0.size + 4 + t1.size := by omega
  go_enter Tryd.func25, Tryd.ntmps25
  go_wp2_with fail
  generalize hW : w.alloc _ = W0
  obtain ⟨hz, hbx, hbw⟩ := rbox hW
  clear hW
  have x5 := keep_cell (o := 5) (by omega) (six_parts hbx).2.2.2.2.2
  have y0 := keep_six (by omega) (hs0.below hbw hb)
  have y1 := keep_six (by omega) (hs1.below hbw hb)
  have HZ := Lib.hid hz
  clear hs0 hs1 hbx hz
  go_region_held3 (fun w' => Below W0.heap.size W0 w')
    (first | exact (Below.refl _ _).drew | (refine Below.trans ?_ (hb2.mono ?_); assumption; exact Below.size (by assumption)) | assumption)
    (first | (go_at_call 60; with_reducible refine (H0.out _ (below_step hbw HZ.out ?_)).mono ?_; assumption; rintro e w2 ⟨rfl, hb2⟩) | (go_at_call 60; with_reducible refine (H1.out _ (below_step hbw HZ.out ?_)).mono ?_; assumption; rintro e w2 ⟨rfl, hb2⟩))
  go_wp2
  go_ret
  exact ⟨rfl, below_step hbw HZ.out (by assumption)⟩
set_option maxHeartbeats 4000000 in
set_option maxRecDepth 100000 in
theorem rtext_fby (a n : Int) (nm : ByteArray) (off : Bool) (b o len cap : Nat) (k0 a0 n0 : Int) (nm0 : ByteArray) (off0 : Bool) (s0 : Value) (k1 a1 n1 : Int) (nm1 : ByteArray) (off1 : Bool) (s1 : Value)
    (t0 t1 : ByteArray) (w : World) (hl : len = 2) (hb : b < w.heap.size) (hnm : nm.size ≤ 1000000) (ht0 : t0.size ≤ 100000000) (ht1 : t1.size ≤ 100000000)
    (hs0 : Six w b o (.int .i64 k0) (.int .i64 a0) (.int .i64 n0) (.string nm0) (.bool off0) s0)
    (hs1 : Six w b (o + 6) (.int .i64 k1) (.int .i64 a1) (.int .i64 n1) (.string nm1) (.bool off1) s1)
    (h0 : RKidAt w (exVal k0 a0 n0 nm0 off0 s0) 0 t0) (h1 : RKidAt w (exVal k1 a1 n1 nm1 off1 s1) 1 t1) :
    Calls Tryd.prog 25 #[exVal 9 a n nm off (.slice (some ⟨b, o, none⟩) len cap)] w fun e w' => e = .returned (.string (t0 ++ ⟨#[32, 102, 98, 121, 32]⟩ ++ t1)) ∧ Below w.heap.size w w' := by
  subst hl
  have H0 := Lib.hid h0; clear h0
  have H1 := Lib.hid h1; clear h1
  have f1 : ¬ 9223372036854775807 < t0.size + 5 := by omega
  have f2 : ¬ 9223372036854775807 < t0.size + 5 + t1.size := by omega
  go_enter Tryd.func25, Tryd.ntmps25
  go_wp2_with fail
  generalize hW : w.alloc _ = W0
  obtain ⟨hz, hbx, hbw⟩ := rbox hW
  clear hW
  have x5 := keep_cell (o := 5) (by omega) (six_parts hbx).2.2.2.2.2
  have y0 := keep_six (by omega) (hs0.below hbw hb)
  have y1 := keep_six (by omega) (hs1.below hbw hb)
  have HZ := Lib.hid hz
  clear hs0 hs1 hbx hz
  go_region_held3 (fun w' => Below W0.heap.size W0 w')
    (first | exact (Below.refl _ _).drew | (refine Below.trans ?_ (hb2.mono ?_); assumption; exact Below.size (by assumption)) | assumption)
    (first | (go_at_call 60; with_reducible refine (H0.out _ (below_step hbw HZ.out ?_)).mono ?_; assumption; rintro e w2 ⟨rfl, hb2⟩) | (go_at_call 60; with_reducible refine (H1.out _ (below_step hbw HZ.out ?_)).mono ?_; assumption; rintro e w2 ⟨rfl, hb2⟩))
  go_wp2
  go_ret
  exact ⟨rfl, below_step hbw HZ.out (by assumption)⟩
set_option maxHeartbeats 4000000 in
set_option maxRecDepth 100000 in
theorem rtext_whennot (a n : Int) (nm : ByteArray) (b o len cap : Nat) (k0 a0 n0 : Int) (nm0 : ByteArray) (off0 : Bool) (s0 : Value)
    (t0 : ByteArray) (w : World) (hl : len = 1) (hb : b < w.heap.size) (hnm : nm.size ≤ 1000000) (ht0 : t0.size ≤ 100000000)
    (hs0 : Six w b o (.int .i64 k0) (.int .i64 a0) (.int .i64 n0) (.string nm0) (.bool off0) s0)
    (h0 : RKidAt w (exVal k0 a0 n0 nm0 off0 s0) 9 t0) :
    Calls Tryd.prog 25 #[exVal 11 a n nm true (.slice (some ⟨b, o, none⟩) len cap)] w fun e w' => e = .returned (.string (t0 ++ ⟨#[32, 119, 104, 101, 110, 32, 110, 111, 116, 32]⟩ ++ nm)) ∧ Below w.heap.size w w' := by
  subst hl
  have H0 := Lib.hid h0; clear h0
  have f1 : ¬ 9223372036854775807 < t0.size + 10 := by omega
  have f2 : ¬ 9223372036854775807 < t0.size + 10 + nm.size := by omega
  go_enter Tryd.func25, Tryd.ntmps25
  go_wp2_with fail
  generalize hW : w.alloc _ = W0
  obtain ⟨hz, hbx, hbw⟩ := rbox hW
  clear hW
  have x5 := keep_cell (o := 5) (by omega) (six_parts hbx).2.2.2.2.2
  have x3 := keep_cell (o := 3) (by omega) (six_parts hbx).2.2.2.1
  have y0 := keep_six (by omega) (hs0.below hbw hb)
  have HZ := Lib.hid hz
  clear hs0 hbx hz
  go_region_held3 (fun w' => Below W0.heap.size W0 w')
    (first | exact (Below.refl _ _).drew | (refine Below.trans ?_ (hb2.mono ?_); assumption; exact Below.size (by assumption)) | assumption)
    (first | (go_at_call 60; with_reducible refine (H0.out _ (below_step hbw HZ.out ?_)).mono ?_; assumption; rintro e w2 ⟨rfl, hb2⟩))
  go_wp2
  go_ret
  exact ⟨rfl, below_step hbw HZ.out (by assumption)⟩
set_option maxHeartbeats 4000000 in
set_option maxRecDepth 100000 in
theorem rtext_when (a n : Int) (nm : ByteArray) (b o len cap : Nat) (k0 a0 n0 : Int) (nm0 : ByteArray) (off0 : Bool) (s0 : Value)
    (t0 : ByteArray) (w : World) (hl : len = 1) (hb : b < w.heap.size) (hnm : nm.size ≤ 1000000) (ht0 : t0.size ≤ 100000000)
    (hs0 : Six w b o (.int .i64 k0) (.int .i64 a0) (.int .i64 n0) (.string nm0) (.bool off0) s0)
    (h0 : RKidAt w (exVal k0 a0 n0 nm0 off0 s0) 9 t0) :
    Calls Tryd.prog 25 #[exVal 11 a n nm false (.slice (some ⟨b, o, none⟩) len cap)] w fun e w' => e = .returned (.string (t0 ++ ⟨#[32, 119, 104, 101, 110, 32]⟩ ++ nm)) ∧ Below w.heap.size w w' := by
  subst hl
  have H0 := Lib.hid h0; clear h0
  have f1 : ¬ 9223372036854775807 < t0.size + 6 := by omega
  have f2 : ¬ 9223372036854775807 < t0.size + 6 + nm.size := by omega
  go_enter Tryd.func25, Tryd.ntmps25
  go_wp2_with fail
  generalize hW : w.alloc _ = W0
  obtain ⟨hz, hbx, hbw⟩ := rbox hW
  clear hW
  have x5 := keep_cell (o := 5) (by omega) (six_parts hbx).2.2.2.2.2
  have x3 := keep_cell (o := 3) (by omega) (six_parts hbx).2.2.2.1
  have y0 := keep_six (by omega) (hs0.below hbw hb)
  have HZ := Lib.hid hz
  clear hs0 hbx hz
  go_region_held3 (fun w' => Below W0.heap.size W0 w')
    (first | exact (Below.refl _ _).drew | (refine Below.trans ?_ (hb2.mono ?_); assumption; exact Below.size (by assumption)) | assumption)
    (first | (go_at_call 60; with_reducible refine (H0.out _ (below_step hbw HZ.out ?_)).mono ?_; assumption; rintro e w2 ⟨rfl, hb2⟩))
  go_wp2
  go_ret
  exact ⟨rfl, below_step hbw HZ.out (by assumption)⟩
set_option maxHeartbeats 4000000 in
set_option maxRecDepth 100000 in
theorem rtext_merge (a n : Int) (nm : ByteArray) (off : Bool) (b o len cap : Nat) (k0 a0 n0 : Int) (nm0 : ByteArray) (off0 : Bool) (s0 : Value) (k1 a1 n1 : Int) (nm1 : ByteArray) (off1 : Bool) (s1 : Value)
    (t0 t1 : ByteArray) (w : World) (hl : len = 2) (hb : b < w.heap.size) (hnm : nm.size ≤ 1000000) (ht0 : t0.size ≤ 100000000) (ht1 : t1.size ≤ 100000000)
    (hs0 : Six w b o (.int .i64 k0) (.int .i64 a0) (.int .i64 n0) (.string nm0) (.bool off0) s0)
    (hs1 : Six w b (o + 6) (.int .i64 k1) (.int .i64 a1) (.int .i64 n1) (.string nm1) (.bool off1) s1)
    (h0 : RTextW w (exVal k0 a0 n0 nm0 off0 s0) t0) (h1 : RTextW w (exVal k1 a1 n1 nm1 off1 s1) t1) :
    Calls Tryd.prog 25 #[exVal 12 a n nm off (.slice (some ⟨b, o, none⟩) len cap)] w fun e w' => e = .returned (.string (⟨#[109, 101, 114, 103, 101, 32]⟩ ++ nm ++ ⟨#[32, 40]⟩ ++ t0 ++ ⟨#[41, 32, 40]⟩ ++ t1 ++ ⟨#[41]⟩)) ∧ Below w.heap.size w w' := by
  subst hl
  have H0 := Lib.hid h0; clear h0
  have H1 := Lib.hid h1; clear h1
  have f1 : ¬ 9223372036854775807 < 6 + nm.size := by omega
  have f2 : ¬ 9223372036854775807 < 6 + nm.size + 2 := by omega
  have f3 : ¬ 9223372036854775807 < 6 + nm.size + 2 + t0.size := by omega
  have f4 : ¬ 9223372036854775807 < 6 + nm.size + 2 + t0.size + 3 := by omega
  have f5 : ¬ 9223372036854775807 < 6 + nm.size + 2 + t0.size + 3 + t1.size := by omega
  have f6 : ¬ 9223372036854775807 < 6 + nm.size + 2 + t0.size + 3 + t1.size + 1 := by omega
  go_enter Tryd.func25, Tryd.ntmps25
  go_wp2_with fail
  generalize hW : w.alloc _ = W0
  obtain ⟨hz, hbx, hbw⟩ := rbox hW
  clear hW
  have x5 := keep_cell (o := 5) (by omega) (six_parts hbx).2.2.2.2.2
  have x3 := keep_cell (o := 3) (by omega) (six_parts hbx).2.2.2.1
  have y0 := keep_six (by omega) (hs0.below hbw hb)
  have y1 := keep_six (by omega) (hs1.below hbw hb)
  have HZ := Lib.hid hz
  clear hs0 hs1 hbx hz
  go_region_held3 (fun w' => Below W0.heap.size W0 w')
    (first | exact (Below.refl _ _).drew | (refine Below.trans ?_ (hb2.mono ?_); assumption; exact Below.size (by assumption)) | assumption)
    (first | (go_at_call 25; with_reducible refine (H0.out _ (below_step hbw HZ.out ?_)).mono ?_; assumption; rintro e w2 ⟨rfl, hb2⟩) | (go_at_call 25; with_reducible refine (H1.out _ (below_step hbw HZ.out ?_)).mono ?_; assumption; rintro e w2 ⟨rfl, hb2⟩))
  go_wp2
  go_ret
  exact ⟨rfl, below_step hbw HZ.out (by assumption)⟩
end Go.Proofs.YthhkjjdhecpmlaaDoor
