/-
  The contract of negText.
-/
import Derived.Test.YthhkjjdhecpmlaaDoorTrH
namespace Go.Proofs.YthhkjjdhecpmlaaDoor
open Go.RowKit
set_option linter.unusedVariables false
set_option linter.unusedSimpArgs false
/-- The text of a Neg, out of its kid's. -/
def negT (k1 : Int) (t : ByteArray) : ByteArray := if k1 = 1 ∨ pre ⟨#[45]⟩ t = true then ⟨#[45, 40]⟩ ++ t ++ ⟨#[41]⟩ else ⟨#[45]⟩ ++ t
set_option maxHeartbeats 1000000 in
set_option maxRecDepth 20000 in
theorem negText_of (a n : Int) (nm : ByteArray) (off : Bool) (b o len cap : Nat) (k1 : Int) (t : ByteArray) (w : World) (hl : 0 < len) (hl2 : len ≤ 1000) (ht : t.size ≤ 100000) (hb : b < w.heap.size)
    (hs : w.cell? ⟨b, o, none⟩ = some (.int .i64 k1)) (hB : KidAt w (exVal 4 a n nm off (.slice (some ⟨b, o, none⟩) len cap)) 0 8 t) :
    Calls Tryd.prog 53 #[exVal 4 a n nm off (.slice (some ⟨b, o, none⟩) len cap)] w fun e w' => e = .returned (.string (negT k1 t)) ∧ Below w.heap.size w w' := by
  have HB := Lib.hid hB; have HS := Lib.hid hs; clear hB hs
  have hl3 : (0 : Int) < (len : Int) := by omega
  by_cases h1 : k1 = 1
  · subst h1
    have hr : negT 1 t = ⟨#[45, 40]⟩ ++ t ++ ⟨#[41]⟩ := by unfold negT; rw [if_pos (Or.inl rfl)]
    have HR := Lib.hid hr; clear hr
    go_enter Tryd.func53, Tryd.ntmps53
    go_wp2_with fail
    refine (HB.out _ ((Below.refl _ _).alloc (Nat.le_refl _) _)).mono ?_
    rintro e w1 ⟨rfl, hb1⟩
    have hb0 : Below w.heap.size w w1 := ((Below.refl _ _).alloc (Nat.le_refl _) _).trans (hb1.mono (by simp))
    have e5 : w1.cell? ⟨w.heap.size, 5, none⟩ = some (.slice (some ⟨b, o, none⟩) len cap) := by
      rw [hb1.cell (p := ⟨w.heap.size, 5, none⟩) (by simp)]; simp
    have e0 : w1.cell? ⟨b, o, none⟩ = some (.int .i64 1) := (hb0.cell (p := ⟨b, o, none⟩) hb).trans HS.out
    clear hb1
    go_wp2_with fail
    go_ret
    rw [HR.out]
    exact ⟨rfl, hb0⟩
  · have h1b : (k1 == 1) = false := by simpa using h1
    have HR := Lib.hid (show negT k1 t = if pre ⟨#[45]⟩ t = true then ⟨#[45, 40]⟩ ++ t ++ ⟨#[41]⟩ else ⟨#[45]⟩ ++ t by unfold negT; simp [h1])
    clear h1
    cases hp : pre ⟨#[45]⟩ t
    all_goals
      have HP := Lib.hid hp
      rw [hp] at HR
      clear hp
      go_enter Tryd.func53, Tryd.ntmps53
      go_wp2_with fail
      refine (HB.out _ ((Below.refl _ _).alloc (Nat.le_refl _) _)).mono ?_
      rintro e w1 ⟨rfl, hb1⟩
      have hb0 : Below w.heap.size w w1 := ((Below.refl _ _).alloc (Nat.le_refl _) _).trans (hb1.mono (by simp))
      have e5 : w1.cell? ⟨w.heap.size, 5, none⟩ = some (.slice (some ⟨b, o, none⟩) len cap) := by
        rw [hb1.cell (p := ⟨w.heap.size, 5, none⟩) (by simp)]; simp
      have e0 : w1.cell? ⟨b, o, none⟩ = some (.int .i64 k1) := (hb0.cell (p := ⟨b, o, none⟩) hb).trans HS.out
      clear hb1
      go_wp2_with fail
      refine (hasPrefix_any _ _ _ ht (by decide)).mono ?_
      rintro e w2 ⟨rfl, rfl⟩
      rw [HP.out]
      go_wp2_with fail
      go_ret
      rw [HR.out]
      exact ⟨rfl, hb0⟩
end Go.Proofs.YthhkjjdhecpmlaaDoor
