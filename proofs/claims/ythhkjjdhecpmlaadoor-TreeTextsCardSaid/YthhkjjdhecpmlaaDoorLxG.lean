/-
  Package lex: sign, next.
-/
import Derived.Test.YthhkjjdhecpmlaaDoorLxE
namespace Go.Proofs.YthhkjjdhecpmlaaDoor
open Go.RowKit
set_option linter.unusedVariables false
set_option linter.unusedSimpArgs false

/-- The first of these that stands at k. -/
def firstOf (s : ByteArray) (k : Nat) : List ByteArray → Option ByteArray
  | [] => none
  | t :: r => if pre t (s.extract k s.size) = true then some t else firstOf s k r
def signTok (s : ByteArray) (k : Nat) : Value × Int :=
  match firstOf s k signL with
  | some t => (tokV 4 k t 0, 0)
  | none => (tokV 0 0 ⟨#[]⟩ 0, 1)
theorem signTok_some {s : ByteArray} {k : Nat} {t : ByteArray} (h : firstOf s k signL = some t) : signTok s k = (tokV 4 k t 0, 0) := by unfold signTok; rw [h]
theorem signTok_none {s : ByteArray} {k : Nat} (h : firstOf s k signL = none) : signTok s k = (tokV 0 0 ⟨#[]⟩ 0, 1) := by unfold signTok; rw [h]
theorem firstOf_pass {s : ByteArray} {k : Nat} {t : ByteArray} {r : List ByteArray} (h : pre t (s.extract k s.size) = false) : firstOf s k (t :: r) = firstOf s k r := by
  show (if pre t (s.extract k s.size) = true then some t else firstOf s k r) = _
  rw [h]; rfl
theorem firstOf_step {s : ByteArray} {k j : Nat} {l : List ByteArray} (hj : j < l.length) (h : pre (l.getD j ByteArray.empty) (s.extract k s.size) = false) : firstOf s k (l.drop j) = firstOf s k (l.drop (j + 1)) := by
  rw [List.drop_eq_getElem_cons hj]
  rw [List.getD_eq_getElem?_getD, List.getElem?_eq_getElem hj] at h
  exact firstOf_pass h
theorem firstOf_hit {s : ByteArray} {k j : Nat} {l : List ByteArray} (hj : j < l.length) (h : pre (l.getD j ByteArray.empty) (s.extract k s.size) = true) : firstOf s k (l.drop j) = some (l.getD j ByteArray.empty) := by
  rw [List.drop_eq_getElem_cons hj]
  rw [List.getD_eq_getElem?_getD, List.getElem?_eq_getElem hj] at h ⊢
  unfold firstOf
  rw [show pre l[j] (s.extract k s.size) = true from h, if_pos rfl]; rfl
theorem sign_small : ∀ j, j < 16 → (signL.getD j ByteArray.empty).size ≤ 2 := by decide

set_option maxHeartbeats 1000000 in
set_option maxRecDepth 20000 in
theorem sign_any (s : ByteArray) (k : Nat) (w : World) (hs : s.size ≤ 100000) (hk : k < s.size) :
    Calls Tryd.prog 80 #[.string s, .int .i64 k] w fun x w' => x = .returned (.tuple #[(signTok s k).1, .int .i64 (signTok s k).2]) ∧ Below w.heap.size w w' := by
  go_enter Tryd.func80, Tryd.ntmps80
  go_wp2_with fail
  refine (signs_any _).mono ?_
  rintro x w1 ⟨rfl, ht1, hb1, hz1⟩
  simp only [World.size_alloc] at ht1 hb1 hz1
  have hb0 : Below w.heap.size w w1 := ((Below.refl _ _).alloc (Nat.le_refl _) _).trans (hb1.mono (by omega))
  have c0 : w1.cell? ⟨w.heap.size, 0, none⟩ = some (.int .i64 0) := by rw [hb1.cell (p := ⟨w.heap.size, 0, none⟩) (by simp)]; simp
  have c1 : w1.cell? ⟨w.heap.size, 1, none⟩ = some (.int .i64 0) := by rw [hb1.cell (p := ⟨w.heap.size, 1, none⟩) (by simp)]; simp
  have c2 : w1.cell? ⟨w.heap.size, 2, none⟩ = some (.string ⟨#[]⟩) := by rw [hb1.cell (p := ⟨w.heap.size, 2, none⟩) (by simp)]; simp
  have c3 : w1.cell? ⟨w.heap.size, 3, none⟩ = some (.int .u64 0) := by rw [hb1.cell (p := ⟨w.heap.size, 3, none⟩) (by simp)]; simp
  have z0 : ∀ o, w1.frozen? ⟨w.heap.size, o, none⟩ = false := fun o => by rw [hb1.frozen (p := ⟨w.heap.size, o, none⟩) (by simp)]; simp
  clear hb1
  have HT := Lib.hid ht1; clear ht1
  go_wp2_with fail
  go_loop [10] (fun t => ∃ j : Nat, j ≤ 16 ∧ t = .int .i64 j ∧ Hid (firstOf s k (signL.drop j) = firstOf s k signL)) (fun t => 16 - (intOf t).toNat)
  case atStart => exact ⟨0, Nat.zero_le _, rfl, Lib.hid rfl⟩
  case round =>
    obtain ⟨j, hj, rfl, HJ⟩ := hrel
    by_cases hlt : j < 16
    · have hcell := HT.out j hlt
      have hss := sign_small j hlt
      cases hq : pre (signL.getD j ByteArray.empty) (s.extract k s.size)
      · have H := Lib.hid ((firstOf_step hlt hq).symm.trans HJ.out)
        have HQ := Lib.hid hq; clear hq
        generalize signL.getD j ByteArray.empty = t at *
        go_wp2_with fail
        refine (hasPrefix_any _ _ _ (by simp; omega) (by omega)).mono ?_
        rintro x w' ⟨rfl, rfl⟩
        rw [HQ.out]
        go_wp2_with fail
        go_round
        case rel => exact ⟨j + 1, by omega, by go_num, H⟩
        case measure => simp [intOf]; omega
      · have H := Lib.hid (signTok_some (HJ.out.symm.trans (firstOf_hit hlt hq)))
        have HQ := Lib.hid hq; clear hq
        generalize signL.getD j ByteArray.empty = t at *
        go_wp2_with fail
        refine (hasPrefix_any _ _ _ (by simp; omega) (by omega)).mono ?_
        rintro x w' ⟨rfl, rfl⟩
        rw [HQ.out]
        go_wp2_with fail
        rw [H.out]
        exact bodyPost_ret (v := .tuple #[tokV 4 k t 0, .int .i64 0]) (by simp [results, Tryd.results80, go_sem, c0, c1, c2, c3]) rfl ⟨rfl, (((hb0.setCell (by simp) _).setCell (by simp) _).setCell (by simp) _).setCell (by simp) _⟩
    · have hj16 : j = 16 := by omega
      subst hj16
      have H := Lib.hid (signTok_none (HJ.out.symm.trans rfl))
      go_wp2_with fail
      rw [H.out]
      exact bodyPost_ret (v := .tuple #[tokV 0 0 ⟨#[]⟩ 0, .int .i64 1]) (by simp [results, Tryd.results80, go_sem, c0, c1, c2, c3]) rfl ⟨rfl, (((hb0.setCell (by simp) _).setCell (by simp) _).setCell (by simp) _).setCell (by simp) _⟩
end Go.Proofs.YthhkjjdhecpmlaaDoor
