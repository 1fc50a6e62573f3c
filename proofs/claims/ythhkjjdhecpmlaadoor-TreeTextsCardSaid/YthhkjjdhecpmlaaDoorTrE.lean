/-
  The contracts of Text for the kinds Bool, Neg, Not, Pre, When, out of what is known of the kids.
-/
import Derived.Test.YthhkjjdhecpmlaaDoorTrD
namespace Go.Proofs.YthhkjjdhecpmlaaDoor
open Go.RowKit
set_option linter.unusedVariables false
set_option linter.unusedSimpArgs false

/-- A kid's text is known, as one that must bind so closely. -/
abbrev KidAt (w : World) (v : Value) (i least : Int) (t : ByteArray) : Prop :=
  ∀ w1, Below w.heap.size w w1 → Calls Tryd.prog 54 #[v, .int .i64 i, .int .i64 least] w1 fun e w' => e = .returned (.string t) ∧ Below w1.heap.size w1 w'

theorem formatBool_in (b : Bool) (w : World) :
    Calls Tryd.prog 85 #[.bool b] w fun e w' => e = .returned (.string (if b then ⟨#[116, 114, 117, 101]⟩ else ⟨#[102, 97, 108, 115, 101]⟩)) ∧ w' = w := by
  cases b
  · go_enter Tryd.func85, Tryd.ntmps85
    go_wp2_with fail
    go_ret
    exact ⟨rfl, rfl⟩
  · go_enter Tryd.func85, Tryd.ntmps85
    go_wp2_with fail
    go_ret
    exact ⟨rfl, rfl⟩

theorem formatBool_any (b : Bool) (w : World) :
    Calls Tryd.prog 52 #[.bool b] w fun e w' => e = .returned (.string (if b then ⟨#[116, 114, 117, 101]⟩ else ⟨#[102, 97, 108, 115, 101]⟩)) ∧ w' = w := by
  cases b
  · go_enter Tryd.func52, Tryd.ntmps52
    go_wp2_with (go_at_call 85; refine (formatBool_in _ _).mono ?_; rintro e w' ⟨rfl, rfl⟩)
    go_ret
    exact ⟨rfl, rfl⟩
  · go_enter Tryd.func52, Tryd.ntmps52
    go_wp2_with (go_at_call 85; refine (formatBool_in _ _).mono ?_; rintro e w' ⟨rfl, rfl⟩)
    go_ret
    exact ⟨rfl, rfl⟩

set_option maxHeartbeats 400000 in
theorem text_bool (a n : Int) (nm : ByteArray) (off : Bool) (s : Value) (w : World) :
    Calls Tryd.prog 24 #[exVal 2 a n nm off s] w fun e w' => e = .returned (.string (if n = 0 then ⟨#[102, 97, 108, 115, 101]⟩ else ⟨#[116, 114, 117, 101]⟩)) ∧ Below w.heap.size w w' := by
  by_cases hn : n = 0
  · subst hn
    go_enter Tryd.func24, Tryd.ntmps24
    go_wp2_with (go_at_call 52; refine (formatBool_any _ _).mono ?_; rintro e w' ⟨rfl, rfl⟩)
    go_ret
    exact ⟨rfl, (Below.refl _ _).alloc (Nat.le_refl _) _⟩
  · rw [if_neg hn]
    have hb : (n == 0) = false := by simpa using hn
    go_enter Tryd.func24, Tryd.ntmps24
    go_wp2_with (go_at_call 52; refine (formatBool_any _ _).mono ?_; rintro e w' ⟨rfl, rfl⟩)
    go_ret
    exact ⟨rfl, (Below.refl _ _).alloc (Nat.le_refl _) _⟩

set_option maxHeartbeats 400000 in
theorem text_neg (a n : Int) (nm : ByteArray) (off : Bool) (s : Value) (t : ByteArray) (w : World)
    (hB : ∀ w1, Below w.heap.size w w1 → Calls Tryd.prog 53 #[exVal 4 a n nm off s] w1 fun e w' => e = .returned (.string t) ∧ Below w1.heap.size w1 w') :
    Calls Tryd.prog 24 #[exVal 4 a n nm off s] w fun e w' => e = .returned (.string t) ∧ Below w.heap.size w w' := by
  have HB := Lib.hid hB; clear hB
  go_enter Tryd.func24, Tryd.ntmps24
  go_wp2_with fail
  refine (HB.out _ ((Below.refl _ _).alloc (Nat.le_refl _) _)).mono ?_
  rintro e w1 ⟨rfl, hb1⟩
  go_wp2_with fail
  go_ret
  exact ⟨rfl, ((Below.refl _ _).alloc (Nat.le_refl _) _).trans (hb1.mono (by simp))⟩

set_option maxHeartbeats 400000 in
theorem text_not (a n : Int) (nm : ByteArray) (off : Bool) (s : Value) (t : ByteArray) (w : World) (ht : t.size ≤ 1000000000)
    (hB : KidAt w (exVal 5 a n nm off s) 0 4 t) :
    Calls Tryd.prog 24 #[exVal 5 a n nm off s] w fun e w' => e = .returned (.string (⟨#[110, 111, 116, 32]⟩ ++ t)) ∧ Below w.heap.size w w' := by
  have HB := Lib.hid hB; clear hB
  go_enter Tryd.func24, Tryd.ntmps24
  go_wp2_with fail
  refine (HB.out _ ((Below.refl _ _).alloc (Nat.le_refl _) _)).mono ?_
  rintro e w1 ⟨rfl, hb1⟩
  go_wp2_with fail
  go_ret
  exact ⟨rfl, ((Below.refl _ _).alloc (Nat.le_refl _) _).trans (hb1.mono (by simp))⟩

set_option maxHeartbeats 400000 in
theorem text_pre (a n : Int) (nm : ByteArray) (off : Bool) (s : Value) (t : ByteArray) (w : World) (ht : t.size ≤ 1000000000)
    (hB : KidAt w (exVal 10 a n nm off s) 0 8 t) :
    Calls Tryd.prog 24 #[exVal 10 a n nm off s] w fun e w' => e = .returned (.string (⟨#[112, 114, 101, 32]⟩ ++ t)) ∧ Below w.heap.size w w' := by
  have HB := Lib.hid hB; clear hB
  go_enter Tryd.func24, Tryd.ntmps24
  go_wp2_with fail
  refine (HB.out _ ((Below.refl _ _).alloc (Nat.le_refl _) _)).mono ?_
  rintro e w1 ⟨rfl, hb1⟩
  go_wp2_with fail
  go_ret
  exact ⟨rfl, ((Below.refl _ _).alloc (Nat.le_refl _) _).trans (hb1.mono (by simp))⟩

set_option maxHeartbeats 400000 in
theorem whenText_any (nm : ByteArray) (off : Bool) (w : World) (hnm : nm.size ≤ 1000000) :
    Calls Tryd.prog 56 #[.string nm, .bool off] w fun e w' => e = .returned (.string ((if off then ⟨#[32, 119, 104, 101, 110, 32, 110, 111, 116, 32]⟩ else ⟨#[32, 119, 104, 101, 110, 32]⟩) ++ nm)) ∧ w' = w := by
  cases off
  · go_enter Tryd.func56, Tryd.ntmps56
    go_wp2_with fail
    go_ret
    exact ⟨rfl, rfl⟩
  · go_enter Tryd.func56, Tryd.ntmps56
    go_wp2_with fail
    go_ret
    exact ⟨rfl, rfl⟩
end Go.Proofs.YthhkjjdhecpmlaaDoor
