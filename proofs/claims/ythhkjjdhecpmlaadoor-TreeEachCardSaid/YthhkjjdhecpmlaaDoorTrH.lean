/-
  The contracts of awaitText, negText, and of Text for the kinds Call and Await.
-/
import Derived.Test.YthhkjjdhecpmlaaDoorTrG
import Derived.Test.YthhkjjdhecpmlaaDoorLxC
namespace Go.Proofs.YthhkjjdhecpmlaaDoor
open Go.RowKit
set_option linter.unusedVariables false
set_option linter.unusedSimpArgs false
/-- The texts of all kids are known. -/
abbrev KidsAt (w : World) (v : Value) (t : ByteArray) : Prop :=
  ∀ w1, Below w.heap.size w w1 → Calls Tryd.prog 57 #[v] w1 fun e w' => e = .returned (.string t) ∧ Below w1.heap.size w1 w'

set_option maxHeartbeats 1000000 in
theorem text_call (a n : Int) (nm : ByteArray) (off : Bool) (s : Value) (t0 : ByteArray) (w : World) (hnm : nm.size ≤ 1000000) (ht0 : t0.size ≤ 100000000)
    (h0 : KidsAt w (exVal 13 a n nm off s) t0) :
    Calls Tryd.prog 24 #[exVal 13 a n nm off s] w fun e w' => e = .returned (.string (nm ++ ⟨#[40]⟩ ++ t0 ++ ⟨#[41]⟩)) ∧ Below w.heap.size w w' := by
    have H0 := Lib.hid h0; clear h0
    have f2 : ¬ 9223372036854775807 < nm.size + 1 := by omega
    have f3 : ¬ 9223372036854775807 < nm.size + 1 + t0.size := by omega
    have f4 : ¬ 9223372036854775807 < nm.size + 1 + t0.size + 1 := by omega
    go_enter Tryd.func24, Tryd.ntmps24
    go_wp2
    generalize hW : w.alloc _ = W0
    have hs : w.heap.size < W0.heap.size := by rw [← hW]; simp
    have c0 : W0.cell? ⟨w.heap.size, 0, none⟩ = some (.int .i64 13) := by rw [← hW]; simp
    have c1 : W0.cell? ⟨w.heap.size, 1, none⟩ = some (.int .i64 a) := by rw [← hW]; simp
    have c2 : W0.cell? ⟨w.heap.size, 2, none⟩ = some (.int .i64 n) := by rw [← hW]; simp
    have c3 : W0.cell? ⟨w.heap.size, 3, none⟩ = some (.string nm) := by rw [← hW]; simp
    have c4 : W0.cell? ⟨w.heap.size, 4, none⟩ = some (.bool off) := by rw [← hW]; simp
    have c5 : W0.cell? ⟨w.heap.size, 5, none⟩ = some s := by rw [← hW]; simp
    have HW := Lib.hid hW; clear hW
    have hbS : ∀ w', w'.cell? ⟨w.heap.size, 0, none⟩ = some (.int .i64 13) ∧ w'.cell? ⟨w.heap.size, 1, none⟩ = some (.int .i64 a) ∧ w'.cell? ⟨w.heap.size, 2, none⟩ = some (.int .i64 n) ∧ w'.cell? ⟨w.heap.size, 3, none⟩ = some (.string nm) ∧ w'.cell? ⟨w.heap.size, 4, none⟩ = some (.bool off) ∧ w'.cell? ⟨w.heap.size, 5, none⟩ = some s ∧ Below W0.heap.size W0 w' → Below w.heap.size w w' := fun w' h => below_box HW.out h.2.2.2.2.2.2
    have HB := Lib.hid hbS; clear hbS
    go_region_held3 (fun w' => w'.cell? ⟨w.heap.size, 0, none⟩ = some (.int .i64 13) ∧ w'.cell? ⟨w.heap.size, 1, none⟩ = some (.int .i64 a) ∧ w'.cell? ⟨w.heap.size, 2, none⟩ = some (.int .i64 n) ∧ w'.cell? ⟨w.heap.size, 3, none⟩ = some (.string nm) ∧ w'.cell? ⟨w.heap.size, 4, none⟩ = some (.bool off) ∧ w'.cell? ⟨w.heap.size, 5, none⟩ = some s ∧ Below W0.heap.size W0 w')
      (first | exact ⟨c0, c1, c2, c3, c4, c5, (Below.refl _ _).drew⟩ | (refine box_keep hs ?_ hb2; assumption) | assumption)
      (first | (go_at_call 57; with_reducible refine (H0.out _ (HB.out _ ?_)).mono ?_; assumption; rintro e w2 ⟨rfl, hb2⟩))
    go_wp2
    go_ret
    exact ⟨rfl, HB.out _ (by assumption)⟩

set_option maxHeartbeats 400000 in
theorem text_await (a n : Int) (nm : ByteArray) (off : Bool) (s : Value) (t : ByteArray) (w : World)
    (hB : ∀ w1, Below w.heap.size w w1 → Calls Tryd.prog 58 #[exVal 14 a n nm off s] w1 fun e w' => e = .returned (.string t) ∧ Below w1.heap.size w1 w') :
    Calls Tryd.prog 24 #[exVal 14 a n nm off s] w fun e w' => e = .returned (.string t) ∧ Below w.heap.size w w' := by
  have HB := Lib.hid hB; clear hB
  go_enter Tryd.func24, Tryd.ntmps24
  go_wp2_with fail
  refine (HB.out _ ((Below.refl _ _).alloc (Nat.le_refl _) _)).mono ?_
  rintro e w1 ⟨rfl, hb1⟩
  go_wp2_with fail
  go_ret
  exact ⟨rfl, ((Below.refl _ _).alloc (Nat.le_refl _) _).trans (hb1.mono (by simp))⟩

set_option maxHeartbeats 400000 in
theorem awaitText_none (a n : Int) (nm : ByteArray) (off : Bool) (p : Option Addr) (cap : Nat) (w : World) (hnm : nm.size ≤ 1000000) :
    Calls Tryd.prog 58 #[exVal 14 a n nm off (.slice p 0 cap)] w fun e w' => e = .returned (.string (⟨#[97, 119, 97, 105, 116, 32]⟩ ++ nm)) ∧ Below w.heap.size w w' := by
  go_enter Tryd.func58, Tryd.ntmps58
  go_wp2_with fail
  go_ret
  exact ⟨rfl, (Below.refl _ _).alloc (Nat.le_refl _) _⟩

set_option maxHeartbeats 400000 in
theorem awaitText_some (a n : Int) (nm : ByteArray) (off : Bool) (p : Option Addr) (len cap : Nat) (t : ByteArray) (w : World) (hnm : nm.size ≤ 1000000) (hl : 0 < len) (ht : t.size ≤ 1000000000)
    (hB : KidsAt w (exVal 14 a n nm off (.slice p len cap)) t) :
    Calls Tryd.prog 58 #[exVal 14 a n nm off (.slice p len cap)] w fun e w' => e = .returned (.string (⟨#[97, 119, 97, 105, 116, 32]⟩ ++ nm ++ (⟨#[32, 97, 102, 116, 101, 114, 32, 40]⟩ ++ t ++ ⟨#[41]⟩))) ∧ Below w.heap.size w w' := by
  have HB := Lib.hid hB; clear hB
  have hl2 : (0 : Int) < (len : Int) := by omega
  clear hl
  go_enter Tryd.func58, Tryd.ntmps58
  go_wp2_with fail
  refine (HB.out _ ((Below.refl _ _).alloc (Nat.le_refl _) _)).mono ?_
  rintro e w1 ⟨rfl, hb1⟩
  go_wp2_with fail
  go_ret
  exact ⟨rfl, ((Below.refl _ _).alloc (Nat.le_refl _) _).trans (hb1.mono (by simp))⟩

end Go.Proofs.YthhkjjdhecpmlaaDoor
