/-
  The contracts of Text for the kinds Int, Var and Binary, out of what is known of the kids; and package girandolelaw02's awake.
-/
import Derived.Test.YthhkjjdhecpmlaaDoorTrC
import Derived.Lib.ItoaNum
namespace Go.Proofs.YthhkjjdhecpmlaaDoor
open Go.RowKit
set_option linter.unusedVariables false
set_option linter.unusedSimpArgs false

/-- A number by tens. -/
def ib (n : Int) : ByteArray := ⟨(Lib.itoa n).toArray⟩

set_option maxHeartbeats 400000 in
theorem text_int (a n : Int) (nm : ByteArray) (off : Bool) (s : Value) (w : World)
    (hF : ∀ w1, Below w.heap.size w w1 → Calls Tryd.prog 51 #[.int .i64 n, .int .i64 10] w1 fun e w' => e = .returned (.string (ib n)) ∧ Below w1.heap.size w1 w') :
    Calls Tryd.prog 24 #[exVal 1 a n nm off s] w fun e w' => e = .returned (.string (ib n)) ∧ Below w.heap.size w w' := by
  have HF := Lib.hid hF; clear hF
  go_enter Tryd.func24, Tryd.ntmps24
  go_wp2_with fail
  refine (HF.out _ ((Below.refl _ _).alloc (Nat.le_refl _) _)).mono ?_
  rintro e w1 ⟨rfl, hb1⟩
  go_wp2_with fail
  go_ret
  exact ⟨rfl, ((Below.refl _ _).alloc (Nat.le_refl _) _).trans (hb1.mono (by simp))⟩

set_option maxHeartbeats 400000 in
theorem text_var (a n : Int) (nm : ByteArray) (off : Bool) (s : Value) (w : World) :
    Calls Tryd.prog 24 #[exVal 3 a n nm off s] w fun e w' => e = .returned (.string nm) ∧ Below w.heap.size w w' := by
  go_enter Tryd.func24, Tryd.ntmps24
  go_wp2_with fail
  go_ret
  exact ⟨rfl, (Below.refl _ _).alloc (Nat.le_refl _) _⟩

set_option maxHeartbeats 400000 in
theorem text_six (a n : Int) (nm : ByteArray) (off : Bool) (s : Value) (t : ByteArray) (w : World)
    (hB : ∀ w1, Below w.heap.size w w1 → Calls Tryd.prog 55 #[exVal 6 a n nm off s] w1 fun e w' => e = .returned (.string t) ∧ Below w1.heap.size w1 w') :
    Calls Tryd.prog 24 #[exVal 6 a n nm off s] w fun e w' => e = .returned (.string t) ∧ Below w.heap.size w w' := by
  have HB := Lib.hid hB; clear hB
  go_enter Tryd.func24, Tryd.ntmps24
  go_wp2_with fail
  refine (HB.out _ ((Below.refl _ _).alloc (Nat.le_refl _) _)).mono ?_
  rintro e w1 ⟨rfl, hb1⟩
  go_wp2_with fail
  go_ret
  exact ⟨rfl, ((Below.refl _ _).alloc (Nat.le_refl _) _).trans (hb1.mono (by simp))⟩

/-- A contract of a text, at a world and all that have what it has below a bound. -/
def TextAt (w : World) (B : Nat) (v : Value) (t : ByteArray) : Prop :=
  ∀ w1, Below B w w1 → Calls Tryd.prog 24 #[v] w1 fun e w' => e = .returned (.string t) ∧ Below w1.heap.size w1 w'
theorem TextAt.later {w w1 : World} {B : Nat} {v : Value} {t : ByteArray} (h : TextAt w B v t) (hb : Below B w w1) : TextAt w1 B v t := fun w2 h2 => h w2 (hb.trans h2)

/-- A kid lies at an address, and its text is known. -/
theorem kid_of (k a n : Int) (nm : ByteArray) (off : Bool) (b o len cap i : Nat) (least : Int)
    (k1 a1 n1 : Int) (nm1 : ByteArray) (off1 : Bool) (s1 : Value) (t : ByteArray) (B : Nat) (w : World)
    (ht : t.size ≤ 1000000000) (hk1 : 1 ≤ k1 ∧ k1 ≤ 14) (hi : i < len) (hl : len ≤ 1000000) (hbB : b < B) (hB : B ≤ w.heap.size)
    (hs : Six w b (o + i * 6) (.int .i64 k1) (.int .i64 a1) (.int .i64 n1) (.string nm1) (.bool off1) s1)
    (hT : TextAt w B (exVal k1 a1 n1 nm1 off1 s1) t) :
    ∀ w1, Below w.heap.size w w1 → Calls Tryd.prog 54 #[exVal k a n nm off (.slice (some ⟨b, o, none⟩) len cap), .int .i64 i, .int .i64 least] w1 fun e w' =>
      e = .returned (.string (wrapT (bnd k1 n1 nm1) least t)) ∧ Below w1.heap.size w1 w' := fun w1 h1 =>
  kidText_some k a n nm off b o len cap i least k1 a1 n1 nm1 off1 s1 t B w1 ht hk1 hi hl hbB (Nat.le_trans hB h1.size) (hs.below h1 (by omega)) (hT.later (h1.mono hB))

theorem wrapT_size (b l : Int) (t : ByteArray) : (wrapT b l t).size ≤ t.size + 2 := by
  unfold wrapT; split
  · rw [ByteArray.size_append, ByteArray.size_append]; show 1 + t.size + 1 ≤ _; omega
  · omega
/-- A Binary whose two kids lie in one row. -/
theorem text_bin (a n : Int) (nm : ByteArray) (off : Bool) (b o cap : Nat)
    (k0 a0 n0 : Int) (nm0 : ByteArray) (off0 : Bool) (s0 : Value) (t0 : ByteArray)
    (k1 a1 n1 : Int) (nm1 : ByteArray) (off1 : Bool) (s1 : Value) (t1 : ByteArray) (B : Nat) (w : World)
    (hnm : nm.size ≤ 1000) (ht0 : t0.size ≤ 90000000) (ht1 : t1.size ≤ 90000000) (hk0 : 1 ≤ k0 ∧ k0 ≤ 14) (hk1 : 1 ≤ k1 ∧ k1 ≤ 14) (hbB : b < B) (hB : B ≤ w.heap.size)
    (hs0 : Six w b o (.int .i64 k0) (.int .i64 a0) (.int .i64 n0) (.string nm0) (.bool off0) s0)
    (hs1 : Six w b (o + 6) (.int .i64 k1) (.int .i64 a1) (.int .i64 n1) (.string nm1) (.bool off1) s1)
    (hT0 : TextAt w B (exVal k0 a0 n0 nm0 off0 s0) t0) (hT1 : TextAt w B (exVal k1 a1 n1 nm1 off1 s1) t1) :
    TextAt w B (exVal 6 a n nm off (.slice (some ⟨b, o, none⟩) 2 cap))
      (wrapT (bnd k0 n0 nm0) (if signB nm = 5 then 6 else signB nm) t0 ++ ⟨#[32]⟩ ++ nm ++ ⟨#[32]⟩ ++ wrapT (bnd k1 n1 nm1) (signB nm + 1) t1) := by
  intro w1 h1
  have hz := h1.size
  refine text_six a n nm off _ _ w1 (fun w2 h2 => ?_)
  have hz2 := h2.size
  have h12 : Below B w w2 := h1.trans (h2.mono (by omega))
  refine binaryText_of 6 a n nm off _ _ _ w2 hnm ?_ ?_ ?_ ?_
  · exact Nat.le_trans (wrapT_size _ _ _) (by omega)
  · exact Nat.le_trans (wrapT_size _ _ _) (by omega)
  · exact kid_of 6 a n nm off b o 2 cap 0 _ k0 a0 n0 nm0 off0 s0 t0 B w2 (by omega) hk0 (by omega) (by omega) hbB (by omega) ((hs0.below h12 hbB)) (hT0.later h12)
  · exact kid_of 6 a n nm off b o 2 cap 1 _ k1 a1 n1 nm1 off1 s1 t1 B w2 (by omega) hk1 (by omega) (by omega) hbB (by omega) ((hs1.below h12 hbB)) (hT1.later h12)

theorem ib_one : ib 1 = ⟨#[49]⟩ := by
  unfold ib Lib.itoa Lib.decDigits; rfl
theorem ib_neg_two : ib (-2) = ⟨#[45, 50]⟩ := by
  unfold ib Lib.itoa Lib.decDigits; rfl

theorem sg43 : signB ⟨#[43]⟩ = 6 := by kernel_rfl
theorem sg42 : signB ⟨#[42]⟩ = 7 := by kernel_rfl
theorem tx1 : wrapT (bnd 3 0 ⟨#[120]⟩) (if signB ⟨#[43]⟩ = 5 then 6 else signB ⟨#[43]⟩) ⟨#[120]⟩ ++ ⟨#[32]⟩ ++ ⟨#[43]⟩ ++ ⟨#[32]⟩ ++ wrapT (bnd 1 1 ⟨#[]⟩) (signB ⟨#[43]⟩ + 1) ⟨#[49]⟩ = ⟨#[120, 32, 43, 32, 49]⟩ := by
  rw [sg43]; rfl
theorem tx2 : wrapT (bnd 6 0 ⟨#[43]⟩) (if signB ⟨#[42]⟩ = 5 then 6 else signB ⟨#[42]⟩) ⟨#[120, 32, 43, 32, 49]⟩ ++ ⟨#[32]⟩ ++ ⟨#[42]⟩ ++ ⟨#[32]⟩ ++ wrapT (bnd 1 (-2) ⟨#[]⟩) (signB ⟨#[42]⟩ + 1) ⟨#[45, 50]⟩ = ⟨#[40, 120, 32, 43, 32, 49, 41, 32, 42, 32, 45, 50]⟩ := by
  have : bnd 6 0 ⟨#[43]⟩ = 6 := by unfold bnd; simp [sg43]
  rw [sg42, this]; rfl

set_option maxHeartbeats 1000000 in
theorem awake2 (w : World)
    (hF1 : ∀ w1, Below w.heap.size w w1 → Calls Tryd.prog 51 #[.int .i64 1, .int .i64 10] w1 fun e w' => e = .returned (.string (ib 1)) ∧ Below w1.heap.size w1 w')
    (hF2 : ∀ w1, Below w.heap.size w w1 → Calls Tryd.prog 51 #[.int .i64 (-2), .int .i64 10] w1 fun e w' => e = .returned (.string (ib (-2))) ∧ Below w1.heap.size w1 w') :
    Calls Tryd.prog 19 #[] w fun e w' => e = .returned (.bool true) ∧ Below w.heap.size w w' := by
  have HF1 := Lib.hid hF1; have HF2 := Lib.hid hF2; clear hF1 hF2
  go_enter Tryd.func19, Tryd.ntmps19
  go_wp2_with fail
  generalize hA : w.alloc _ = WA
  generalize hC : WA.alloc _ = WC
  generalize hW : WC.alloc _ = W0
  have zA : WA.heap.size = w.heap.size + 1 := by rw [← hA]; simp
  have zC : WC.heap.size = w.heap.size + 1 + 1 := by rw [← hC, World.size_alloc, zA]
  have hz : W0.heap.size = w.heap.size + 1 + 1 + 1 := by rw [← hW, World.size_alloc, zC]
  have bA : Below w.heap.size w WA := by rw [← hA]; exact (Below.refl _ _).alloc (Nat.le_refl _) _
  have bC : Below WA.heap.size WA WC := by rw [← hC]; exact (Below.refl _ _).alloc (Nat.le_refl _) _
  have bW : Below WC.heap.size WC W0 := by rw [← hW]; exact (Below.refl _ _).alloc (Nat.le_refl _) _
  have hb0 : Below w.heap.size w W0 := bA.trans ((bC.mono (by omega)).trans (bW.mono (by omega)))
  have s1 : Six W0 w.heap.size 0 (.int .i64 3) (.int .i64 0) (.int .i64 0) (.string ⟨#[120]⟩) (.bool false) (.slice none 0 0) :=
    Six.below (bC.trans (bW.mono (by omega))) (by omega) (by rw [← hA]; unfold Six; simp)
  have s2 : Six W0 w.heap.size (0 + 6) (.int .i64 1) (.int .i64 0) (.int .i64 1) (.string ⟨#[]⟩) (.bool false) (.slice none 0 0) :=
    Six.below (bC.trans (bW.mono (by omega))) (by omega) (by rw [← hA]; unfold Six; simp)
  have s3 : Six W0 (w.heap.size + 1 + 1) 0 (.int .i64 6) (.int .i64 0) (.int .i64 0) (.string ⟨#[43]⟩) (.bool false) (.slice (some ⟨w.heap.size, 0, none⟩) 2 2) := by
    rw [← hW, ← zC]; unfold Six; simp
  have s4 : Six W0 (w.heap.size + 1 + 1) (0 + 6) (.int .i64 1) (.int .i64 0) (.int .i64 (-2)) (.string ⟨#[]⟩) (.bool false) (.slice none 0 0) := by
    rw [← hW, ← zC]; unfold Six; simp
  have tx : TextAt W0 (w.heap.size + 3) (exVal 3 0 0 ⟨#[120]⟩ false (.slice none 0 0)) ⟨#[120]⟩ := fun w1 _ => text_var _ _ _ _ _ w1
  have t1 : TextAt W0 (w.heap.size + 3) (exVal 1 0 1 ⟨#[]⟩ false (.slice none 0 0)) (ib 1) := fun w1 h1 => text_int _ _ _ _ _ w1 (fun w2 h2 => HF1.out _ ((hb0.trans (h1.mono (by omega))).trans (h2.mono (by have := h1.size; omega))))
  have t2 : TextAt W0 (w.heap.size + 3) (exVal 1 0 (-2) ⟨#[]⟩ false (.slice none 0 0)) (ib (-2)) := fun w1 h1 => text_int _ _ _ _ _ w1 (fun w2 h2 => HF2.out _ ((hb0.trans (h1.mono (by omega))).trans (h2.mono (by have := h1.size; omega))))
  have e1 := text_bin 0 0 ⟨#[43]⟩ false w.heap.size 0 2 _ _ _ _ _ _ _ _ _ _ _ _ _ _ (w.heap.size + 3) W0 (by decide) (by decide) (by rw [ib_one]; decide) (by decide) (by decide) (by omega) (by omega) s1 s2 tx t1
  rw [ib_one, tx1] at e1
  have e2 := text_bin 0 0 ⟨#[42]⟩ false (w.heap.size + 1 + 1) 0 2 _ _ _ _ _ _ _ _ _ _ _ _ _ _ (w.heap.size + 3) W0 (by decide) (by decide) (by rw [ib_neg_two]; decide) (by decide) (by decide) (by omega) (by omega) s3 s4 e1 t2
  rw [ib_neg_two, tx2] at e2
  refine (e2 W0 (Below.refl _ _)).mono ?_
  rintro e w1 ⟨rfl, hb1⟩
  have hb2 : Below w.heap.size w w1 := hb0.trans (hb1.mono (by omega))
  clear e1 e2 s1 s2 s3 s4 tx t1 t2 hW hz hA hC zA zC bA bC bW
  go_wp2_with fail
  go_ret
  exact ⟨rfl, hb2⟩
end Go.Proofs.YthhkjjdhecpmlaaDoor
