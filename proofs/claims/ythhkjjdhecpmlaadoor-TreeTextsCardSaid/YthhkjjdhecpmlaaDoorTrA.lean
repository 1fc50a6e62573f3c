/-
  What the functions of package tree do to memory: expressions as trees (Ex), how a tree lies in memory (Rep), its text (txt), and the contracts of signBinds and binds. No condition but those in the theorems.
-/
import Derived.Test.YthhkjjdhecpmlaaDoorProg
import Derived.WalkKit
import Derived.WalkSpells
import Derived.Lib.Hide
namespace Go.Proofs.YthhkjjdhecpmlaaDoor
open Go.RowKit
set_option linter.unusedVariables false
set_option linter.unusedSimpArgs false

/-- An expression, as the page has it. -/
inductive Ex where
  | mk (kind pos num : Int) (name : ByteArray) (off : Bool) (kids : List Ex)

/-- The value of an expression whose kids lie behind the slice s. -/
abbrev exVal (k a n : Int) (nm : ByteArray) (off : Bool) (s : Value) : Value :=
  .agg #[.int .i64 k, .int .i64 a, .int .i64 n, .string nm, .bool off, s]

/-- Six cells from an address on hold a value. -/
def Six (w : World) (b o : Nat) (c0 c1 c2 c3 c4 c5 : Value) : Prop :=
  w.cell? ⟨b, o, none⟩ = some c0 ∧ w.cell? ⟨b, o + 1, none⟩ = some c1 ∧ w.cell? ⟨b, o + 2, none⟩ = some c2 ∧ w.cell? ⟨b, o + 3, none⟩ = some c3 ∧ w.cell? ⟨b, o + 4, none⟩ = some c4 ∧ w.cell? ⟨b, o + 5, none⟩ = some c5

/-- An expression of at most d levels lies in memory, below block B. -/
def Rep (w : World) (B : Nat) : Nat → Ex → Value → Prop
  | 0, _, _ => False
  | d + 1, .mk k a n nm off kids, v => ∃ s, v = exVal k a n nm off s ∧
      ((kids = [] ∧ s = .slice none 0 0) ∨
       ∃ b o cap, s = .slice (some ⟨b, o, none⟩) kids.length cap ∧ b < B ∧ kids.length ≤ 1000000 ∧
         ∀ i (h : i < kids.length), ∃ c0 c1 c2 c3 c4 c5, Six w b (o + i * 6) c0 c1 c2 c3 c4 c5 ∧ Rep w B d kids[i] (.agg #[c0, c1, c2, c3, c4, c5]))

theorem Six.below {w w' : World} {B b o : Nat} {c0 c1 c2 c3 c4 c5 : Value} (hb : Below B w w') (h : b < B) (hs : Six w b o c0 c1 c2 c3 c4 c5) : Six w' b o c0 c1 c2 c3 c4 c5 := by
  obtain ⟨h0, h1, h2, h3, h4, h5⟩ := hs
  exact ⟨(hb.cell (p := ⟨b, o, none⟩) h).trans h0, (hb.cell (p := ⟨b, o + 1, none⟩) h).trans h1, (hb.cell (p := ⟨b, o + 2, none⟩) h).trans h2, (hb.cell (p := ⟨b, o + 3, none⟩) h).trans h3, (hb.cell (p := ⟨b, o + 4, none⟩) h).trans h4, (hb.cell (p := ⟨b, o + 5, none⟩) h).trans h5⟩

theorem Rep.below {w w' : World} {B : Nat} (hb : Below B w w') : ∀ {d : Nat} {e : Ex} {v : Value}, Rep w B d e v → Rep w' B d e v
  | 0, _, _, h => h
  | d + 1, .mk k a n nm off kids, v, h => by
    obtain ⟨s, hv, h⟩ := h
    refine ⟨s, hv, ?_⟩
    rcases h with h | ⟨b, o, cap, hs, hB, hl, h⟩
    · exact Or.inl h
    · refine Or.inr ⟨b, o, cap, hs, hB, hl, fun i hi => ?_⟩
      obtain ⟨c0, c1, c2, c3, c4, c5, h6, hr⟩ := h i hi
      exact ⟨c0, c1, c2, c3, c4, c5, h6.below hb hB, Rep.below hb hr⟩

/-- How closely a sign binds. -/
def signB (s : ByteArray) : Int :=
  if (s.toList == [111, 114]) = true then 2 else if (s.toList == [120, 111, 114]) = true then 2
  else if (s.toList == [97, 110, 100]) = true then 3
  else if (s.toList == [43]) = true then 6 else if (s.toList == [45]) = true then 6
  else if (s.toList == [42]) = true then 7 else if (s.toList == [47]) = true then 7 else if (s.toList == [109, 111, 100]) = true then 7 else 5

/-- How closely an expression binds. -/
def bnd (k n : Int) (nm : ByteArray) : Int :=
  if k = 1 then (if n < 0 then 8 else 10) else if k = 4 then 8 else if k = 10 then 8 else if k = 5 then 4
  else if k = 6 then signB nm else if k = 7 then 0 else if k = 8 then 1 else if k = 9 then 1 else if k = 11 then 9 else 10

set_option maxHeartbeats 400000 in
theorem signBinds_any (s : ByteArray) (w : World) :
    Calls Tryd.prog 87 #[.string s] w fun e w' => e = .returned (.int .i64 (signB s)) ∧ w' = w := by
  by_cases h1 : (s.toList == [111, 114]) = true
  · have : signB s = 2 := by unfold signB; rw [if_pos h1]
    have H := Lib.hid this; clear this
    go_enter Tryd.func87, Tryd.ntmps87; go_wp2; go_ret
    rw [H.out]; exact ⟨rfl, rfl⟩
  have h1' : (s.toList == [111, 114]) = false := by simpa using h1
  by_cases h2 : (s.toList == [120, 111, 114]) = true
  · have : signB s = 2 := by unfold signB; rw [if_neg h1, if_pos h2]
    have H := Lib.hid this; clear this h1
    go_enter Tryd.func87, Tryd.ntmps87; go_wp2; go_ret
    rw [H.out]; exact ⟨rfl, rfl⟩
  have h2' : (s.toList == [120, 111, 114]) = false := by simpa using h2
  by_cases h3 : (s.toList == [97, 110, 100]) = true
  · have : signB s = 3 := by unfold signB; rw [if_neg h1, if_neg h2, if_pos h3]
    have H := Lib.hid this; clear this h1 h2
    go_enter Tryd.func87, Tryd.ntmps87; go_wp2; go_ret
    rw [H.out]; exact ⟨rfl, rfl⟩
  have h3' : (s.toList == [97, 110, 100]) = false := by simpa using h3
  by_cases h4 : (s.toList == [43]) = true
  · have : signB s = 6 := by unfold signB; rw [if_neg h1, if_neg h2, if_neg h3, if_pos h4]
    have H := Lib.hid this; clear this h1 h2 h3
    go_enter Tryd.func87, Tryd.ntmps87; go_wp2; go_ret
    rw [H.out]; exact ⟨rfl, rfl⟩
  have h4' : (s.toList == [43]) = false := by simpa using h4
  by_cases h5 : (s.toList == [45]) = true
  · have : signB s = 6 := by unfold signB; rw [if_neg h1, if_neg h2, if_neg h3, if_neg h4, if_pos h5]
    have H := Lib.hid this; clear this h1 h2 h3 h4
    go_enter Tryd.func87, Tryd.ntmps87; go_wp2; go_ret
    rw [H.out]; exact ⟨rfl, rfl⟩
  have h5' : (s.toList == [45]) = false := by simpa using h5
  by_cases h6 : (s.toList == [42]) = true
  · have : signB s = 7 := by unfold signB; rw [if_neg h1, if_neg h2, if_neg h3, if_neg h4, if_neg h5, if_pos h6]
    have H := Lib.hid this; clear this h1 h2 h3 h4 h5
    go_enter Tryd.func87, Tryd.ntmps87; go_wp2; go_ret
    rw [H.out]; exact ⟨rfl, rfl⟩
  have h6' : (s.toList == [42]) = false := by simpa using h6
  by_cases h7 : (s.toList == [47]) = true
  · have : signB s = 7 := by unfold signB; rw [if_neg h1, if_neg h2, if_neg h3, if_neg h4, if_neg h5, if_neg h6, if_pos h7]
    have H := Lib.hid this; clear this h1 h2 h3 h4 h5 h6
    go_enter Tryd.func87, Tryd.ntmps87; go_wp2; go_ret
    rw [H.out]; exact ⟨rfl, rfl⟩
  have h7' : (s.toList == [47]) = false := by simpa using h7
  by_cases h8 : (s.toList == [109, 111, 100]) = true
  · have : signB s = 7 := by unfold signB; rw [if_neg h1, if_neg h2, if_neg h3, if_neg h4, if_neg h5, if_neg h6, if_neg h7, if_pos h8]
    have H := Lib.hid this; clear this h1 h2 h3 h4 h5 h6 h7
    go_enter Tryd.func87, Tryd.ntmps87; go_wp2; go_ret
    rw [H.out]; exact ⟨rfl, rfl⟩
  have h8' : (s.toList == [109, 111, 100]) = false := by simpa using h8
  have : signB s = 5 := by unfold signB; rw [if_neg h1, if_neg h2, if_neg h3, if_neg h4, if_neg h5, if_neg h6, if_neg h7, if_neg h8]
  have H := Lib.hid this; clear this h1 h2 h3 h4 h5 h6 h7 h8
  go_enter Tryd.func87, Tryd.ntmps87; go_wp2; go_ret
  rw [H.out]; exact ⟨rfl, rfl⟩

set_option maxHeartbeats 1000000 in
theorem binds_any (k a n : Int) (nm : ByteArray) (off : Bool) (s : Value) (w : World) (hk : 1 ≤ k ∧ k ≤ 14) :
    Calls Tryd.prog 86 #[exVal k a n nm off s] w fun e w' => e = .returned (.int .i64 (bnd k n nm)) ∧ Below w.heap.size w w' := by
  have hk' : k = 1 ∨ k = 2 ∨ k = 3 ∨ k = 4 ∨ k = 5 ∨ k = 6 ∨ k = 7 ∨ k = 8 ∨ k = 9 ∨ k = 10 ∨ k = 11 ∨ k = 12 ∨ k = 13 ∨ k = 14 := by omega
  clear hk
  rcases hk' with rfl | rfl | rfl | rfl | rfl | rfl | rfl | rfl | rfl | rfl | rfl | rfl | rfl | rfl
  · by_cases hn : n < 0
    · have : bnd 1 n nm = 8 := by simp [bnd, hn]
      have H := Lib.hid this; clear this
      go_enter Tryd.func86, Tryd.ntmps86; go_wp2; go_ret
      rw [H.out]; exact ⟨rfl, (Below.refl _ _).alloc (Nat.le_refl _) _⟩
    · have : bnd 1 n nm = 10 := by simp [bnd, hn]
      have H := Lib.hid this; clear this
      go_enter Tryd.func86, Tryd.ntmps86; go_wp2; go_ret
      rw [H.out]; exact ⟨rfl, (Below.refl _ _).alloc (Nat.le_refl _) _⟩
  case inr.inr.inr.inr.inr.inl =>
    have : bnd 6 n nm = signB nm := by simp [bnd]
    have H := Lib.hid this; clear this
    go_enter Tryd.func86, Tryd.ntmps86
    go_wp2_with (go_at_call 87; refine (signBinds_any _ _).mono ?_; rintro e w' ⟨rfl, rfl⟩)
    go_ret
    rw [H.out]; exact ⟨rfl, (Below.refl _ _).alloc (Nat.le_refl _) _⟩
  all_goals
    go_enter Tryd.func86, Tryd.ntmps86; go_wp2; go_ret
    exact ⟨rfl, (Below.refl _ _).alloc (Nat.le_refl _) _⟩

end Go.Proofs.YthhkjjdhecpmlaaDoor
