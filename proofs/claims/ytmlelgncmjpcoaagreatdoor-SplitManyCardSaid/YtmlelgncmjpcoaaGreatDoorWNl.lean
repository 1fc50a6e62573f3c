/-
  Numbers that are cut to size; a frame of a number and a truth.
-/
import Derived.Test.YtmlelgncmjpcoaaGreatDoorWVa
import Derived.ProofKit
import Derived.Lib.Hide
import Derived.Laws.BitsLemmas
import Derived.IntWalk
import Derived.Laws.Unary
noncomputable section
namespace Go.Ax
open Go.RowKit Go.Proofs
set_option linter.unusedVariables false
set_option linter.unusedSimpArgs false
set_option maxRecDepth 100000
theorem and_any (x : Int) (m : Nat) (hm : m < 65536) : ∃ n : Nat, n ≤ m ∧ bits .and .i64 x (m : Int) = (n : Int) := by
  unfold bits
  simp only
  have h : (BitVec.ofInt IntKind.i64.bits x &&& BitVec.ofInt IntKind.i64.bits (m : Int)).toNat ≤ m := by
    rw [BitVec.toNat_and]
    refine Nat.le_trans Nat.and_le_right ?_
    have e : (BitVec.ofInt IntKind.i64.bits (m : Int)).toNat = m := by
      rw [BitVec.ofInt_natCast, BitVec.toNat_ofNat]
      exact Nat.mod_eq_of_lt (Nat.lt_of_lt_of_le hm (by decide))
    rw [e]; exact Nat.le_refl _
  exact ⟨_, h, IntWalk.i64_in _ (by omega)⟩
theorem and_mod (x : Int) (m q : Nat) (hm : m < 65536) (hq : 0 < q) : ∃ k : Nat, k < q ∧ (bits .and .i64 x (m : Int)).tmod (q : Int) = (k : Int) := by
  obtain ⟨n, hn, he⟩ := and_any x m hm
  refine ⟨n % q, Nat.mod_lt _ hq, ?_⟩
  rw [he, Int.tmod_eq_emod_of_nonneg (by omega)]
  exact (Int.natCast_emod n q).symm
/-- The frame by then: the number, the choice. -/
def fr (k : Int) (b : Bool) : T AV := (T.leaf.set 0 (some (.v (.int .i64 k)))).set 1 (some (.v (.bool b)))
theorem fr_ok {k : Int} {b : Bool} {w : World} {tmps : Array Value} (h0 : tmps[0]? = some (.int .i64 k)) (h1 : tmps[1]? = some (.bool b)) : FR Gh0 w (fr k b) tmps := by
  intro t a h
  unfold fr at h
  rw [T.get_set, T.get_set, T.get_leaf] at h
  split at h
  · rename_i e; subst e
    injection h with h; subst h
    obtain ⟨hl, he⟩ := Array.getElem?_eq_some_iff.1 h1
    exact ⟨hl, by simp only [Array.getD_eq_getD_getElem?, h1, Option.getD_some]; exact .v _ rfl⟩
  · split at h
    · rename_i e; subst e
      injection h with h; subst h
      obtain ⟨hl, he⟩ := Array.getElem?_eq_some_iff.1 h0
      exact ⟨hl, by simp only [Array.getD_eq_getD_getElem?, h0, Option.getD_some]; exact .v _ rfl⟩
    · cases h
end Go.Ax
