/-
  girandolelaw02.mod, Names; what comes in: any tree that can be read.
-/
import Derived.Test.YthhkjjdhecpmlaaDoorOw
import Derived.Test.YthhkjjdhecpmlaaDoorRtJ
import Derived.IntWalk
namespace Go.Proofs.YthhkjjdhecpmlaaDoor
open Go.RowKit
set_option linter.unusedVariables false
set_option linter.unusedSimpArgs false
theorem mod_eq (n m : Int) (hm : 0 < m) : (n.tmod m + m).tmod m = n % m := by
  have h1 : -m < n.tmod m := by
    have := Int.lt_tmod_of_pos n hm; omega
  rw [Int.tmod_eq_emod_of_nonneg (by omega)]
  rw [Int.add_emod_right]
  by_cases h : 0 ≤ n
  · rw [Int.tmod_eq_emod_of_nonneg h, Int.emod_emod_of_dvd _ (Int.dvd_refl m)]
  · rw [Int.tmod_eq_emod]
    split
    · show (n % m - 0) % m = n % m
      rw [Int.sub_zero]; exact Int.emod_emod_of_dvd _ (Int.dvd_refl m)
    · rw [show n % m - (m.natAbs : Int) = n % m + m * (-1) by omega, Int.add_mul_emod_self_left]
      exact Int.emod_emod_of_dvd _ (Int.dvd_refl m)
set_option maxHeartbeats 1000000 in
theorem mod_any (n m : Int) (hm : 0 < m) (hm2 : m ≤ 1000) (w : World) :
    Calls Tryd.prog 33 #[.int .i64 n, .int .i64 m] w fun e w' => e = .returned (.int .i64 (n % m)) ∧ w = w' := by
  have h1 : -m < n.tmod m := Int.lt_tmod_of_pos n hm
  have h2 : n.tmod m < m := Int.tmod_lt_of_pos n hm
  obtain ⟨r, hr⟩ : ∃ r, n.tmod m = r := ⟨_, rfl⟩
  rw [hr] at h1 h2
  have h3 : 0 ≤ (r + m).tmod m := by rw [Int.tmod_eq_emod_of_nonneg (by omega)]; exact Int.emod_nonneg _ (by omega)
  have h4 : (r + m).tmod m < m := Int.tmod_lt_of_pos _ hm
  have H := Lib.hid (show (r + m) % m = n % m by rw [← mod_eq n m hm, hr, Int.tmod_eq_emod_of_nonneg (by omega)])
  have hm0 : (m == 0) = false := by simp; omega
  have hmn : ¬ m = 0 := by omega
  have w1 : IntKind.i64.wrap r = r := IntWalk.i64_in _ (by omega)
  have w2 : IntKind.i64.wrap (r + m) = r + m := IntWalk.i64_in _ (by omega)
  have w3 : IntKind.i64.wrap ((r + m).tmod m) = (r + m).tmod m := IntWalk.i64_in _ (by omega)
  go_enter Tryd.func33, Tryd.ntmps33
  go_wp2_with fail
  go_ret
  rw [H.out]
  exact ⟨rfl, rfl⟩
/-- The row of the nine names. -/
def NamesOut (w : World) (x : Ending) (w' : World) : Prop :=
  x = .returned (.slice (some ⟨w.heap.size, 0, none⟩) 9 9) ∧ Below w.heap.size w w' ∧ w'.heap.size = w.heap.size + 1 ∧ ∀ i (h : i < names9.length), w'.cell? ⟨w.heap.size, i, none⟩ = some (.string names9[i])
set_option maxHeartbeats 1000000 in
set_option maxRecDepth 20000 in
theorem names_any (w : World) : Calls Tryd.prog 32 #[] w (NamesOut w) := by
  go_enter Tryd.func32, Tryd.ntmps32
  go_wp2_with fail
  go_ret
  refine ⟨rfl, (Below.refl _ _).alloc (Nat.le_refl _) _, by simp, fun i hi => ?_⟩
  have h9 : i = 0 ∨ i = 1 ∨ i = 2 ∨ i = 3 ∨ i = 4 ∨ i = 5 ∨ i = 6 ∨ i = 7 ∨ i = 8 := by have : i < 9 := hi; omega
  rcases h9 with rfl | rfl | rfl | rfl | rfl | rfl | rfl | rfl | rfl <;> (simp; rfl)
/-- What comes in can be read, so many levels down. -/
def Raw (w : World) (B : Nat) : Nat → Value → Prop
  | 0, v => ∃ k a n nm off sp sl sc, v = exVal k a n nm off (.slice sp sl sc) ∧ (-9223372036854775808 ≤ n ∧ n ≤ 9223372036854775807) ∧ sl ≤ 9223372036854775807
  | d + 1, v => ∃ k a n nm off sp sl sc, v = exVal k a n nm off (.slice sp sl sc) ∧ (-9223372036854775808 ≤ n ∧ n ≤ 9223372036854775807) ∧ sl ≤ 9223372036854775807 ∧
      ∀ i, i < sl → ∃ b o c0 c1 c2 c3 c4 c5, sp = some ⟨b, o, none⟩ ∧ b < B ∧ Six w b (o + i * 6) c0 c1 c2 c3 c4 c5 ∧ Raw w B d (.agg #[c0, c1, c2, c3, c4, c5])
theorem Raw.below {w w' : World} {B : Nat} (hb : Below B w w') : ∀ {d : Nat} {v : Value}, Raw w B d v → Raw w' B d v
  | 0, _, h => h
  | d + 1, _, h => by
    obtain ⟨k, a, n, nm, off, sp, sl, sc, hv, hn, hl, hk⟩ := h
    refine ⟨k, a, n, nm, off, sp, sl, sc, hv, hn, hl, fun i hi => ?_⟩
    obtain ⟨b, o, c0, c1, c2, c3, c4, c5, hs, hB, h6, hr⟩ := hk i hi
    exact ⟨b, o, c0, c1, c2, c3, c4, c5, hs, hB, h6.below hb hB, Raw.below hb hr⟩
end Go.Proofs.YthhkjjdhecpmlaaDoor
