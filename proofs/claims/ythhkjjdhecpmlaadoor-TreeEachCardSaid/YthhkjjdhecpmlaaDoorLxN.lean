/-
  What a row of digits spells, and what ParseUint says of it.
-/
import Derived.Lib.ParseIntB
namespace Go.Proofs.YthhkjjdhecpmlaaDoor
set_option linter.unusedVariables false
set_option linter.unusedSimpArgs false

/-- What digits spell, behind what was spelt. -/
def numV : Nat → List UInt8 → Nat
  | a, [] => a
  | a, c :: r => numV (a * 10 + (c.toNat - 48)) r
theorem numV_ge : ∀ (l : List UInt8) (a : Nat), a ≤ numV a l
  | [], a => Nat.le_refl _
  | c :: r, a => by
    have := numV_ge r (a * 10 + (c.toNat - 48))
    show a ≤ numV (a * 10 + (c.toNat - 48)) r
    omega
/-- Digits alone. -/
def Digs (l : List UInt8) : Prop := ∀ c ∈ l, 48 ≤ c.toNat ∧ c.toNat ≤ 57
theorem parseM_ok : ∀ (l : List UInt8) (a : Nat), Digs l → numV a l < 18446744073709551616 → Lib.parseUintM (2 ^ 64 - 1) a l = .ok (numV a l)
  | [], a, _, _ => rfl
  | c :: r, a, hd, h => by
    have hc := hd c (by simp)
    have hr : Digs r := fun x hx => hd x (by simp [hx])
    have h1 : a * 10 + (c.toNat - 48) ≤ numV (a * 10 + (c.toNat - 48)) r := numV_ge r _
    have h2 : numV a (c :: r) = numV (a * 10 + (c.toNat - 48)) r := rfl
    rw [h2] at h ⊢
    unfold Lib.parseUintM
    rw [if_pos hc, if_neg (by omega), if_neg (by omega)]
    exact parseM_ok r _ hr h
theorem parseM_range : ∀ (l : List UInt8) (a : Nat), Digs l → a < 18446744073709551616 → 18446744073709551616 ≤ numV a l → Lib.parseUintM (2 ^ 64 - 1) a l = .range
  | [], a, _, ha, h => absurd h (by show ¬ _ ≤ a; omega)
  | c :: r, a, hd, ha, h => by
    have hc := hd c (by simp)
    have hr : Digs r := fun x hx => hd x (by simp [hx])
    have h2 : numV a (c :: r) = numV (a * 10 + (c.toNat - 48)) r := rfl
    rw [h2] at h
    unfold Lib.parseUintM
    rw [if_pos hc]
    by_cases h3 : 1844674407370955162 ≤ a
    · rw [if_pos h3]
    · rw [if_neg h3]
      by_cases h4 : 2 ^ 64 - 1 < a * 10 + (c.toNat - 48)
      · rw [if_pos h4]
      · rw [if_neg h4]
        exact parseM_range r _ hr (by omega) h
theorem parse_ok {l : List UInt8} (hn : l ≠ []) (hd : Digs l) (h : numV 0 l < 18446744073709551616) : Lib.parseUintB 64 l = .ok (numV 0 l) := by
  unfold Lib.parseUintB; rw [if_neg hn]; exact parseM_ok l 0 hd h
theorem parse_range {l : List UInt8} (hn : l ≠ []) (hd : Digs l) (h : 18446744073709551616 ≤ numV 0 l) : Lib.parseUintB 64 l = .range := by
  unfold Lib.parseUintB; rw [if_neg hn]; exact parseM_range l 0 hd (by omega) h
end Go.Proofs.YthhkjjdhecpmlaaDoor
