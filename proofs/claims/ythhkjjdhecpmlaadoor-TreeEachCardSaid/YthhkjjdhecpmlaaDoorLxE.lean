/-
  Package lex: nameOrWord.
-/
import Derived.Test.YthhkjjdhecpmlaaDoorLxD
namespace Go.Proofs.YthhkjjdhecpmlaaDoor
open Go.RowKit
set_option linter.unusedVariables false
set_option linter.unusedSimpArgs false

/-- A token's value. -/
abbrev tokV (k a : Int) (t : ByteArray) (n : Int) : Value := .agg #[.int .i64 k, .int .i64 a, .string t, .int .u64 n]
theorem bcell {W w1 : World} (hb : Below W.heap.size W w1) : (∀ b o, b < W.heap.size → w1.cell? ⟨b, o, none⟩ = W.cell? ⟨b, o, none⟩) ∧ (∀ b o, b < W.heap.size → w1.frozen? ⟨b, o, none⟩ = W.frozen? ⟨b, o, none⟩) :=
  ⟨fun b o h => hb.cell (p := ⟨b, o, none⟩) h, fun b o h => hb.frozen (p := ⟨b, o, none⟩) h⟩

set_option maxHeartbeats 800000 in
set_option maxRecDepth 20000 in
theorem name_word (s : ByteArray) (k e : Nat) (t : ByteArray) (w : World) (hs : s.size ≤ 100000) (hk : k ≤ s.size) (he : beh bName s k = e) (ht : s.extract k e = t) (h1 : isOne wordL t = true) :
    Calls Tryd.prog 77 #[.string s, .int .i64 k] w fun e w' => e = .returned (.tuple #[tokV 3 k t 0, .int .i64 0]) ∧ Below w.heap.size w w' := by
  have hz : e ≤ s.size := he ▸ beh_size hk
  have hz2 : k ≤ e := he ▸ beh_le
  have HE := Lib.hid he; have HT := Lib.hid ht; have H1 := Lib.hid h1; clear he ht h1
  go_enter Tryd.func77, Tryd.ntmps77
  go_wp2_with fail
  refine (behind_name s k _ hs hk).mono ?_
  rintro e w' ⟨rfl, rfl⟩
  rw [HE.out]
  go_wp2_with fail
  rw [HT.out]
  refine (words_any _).mono ?_
  rintro e w1 ⟨rfl, ht1, hb1, hz1⟩
  simp only [World.size_alloc] at ht1 hb1 hz1
  have hb0 : Below w.heap.size w w1 := ((Below.refl _ _).alloc (Nat.le_refl _) _).trans (hb1.mono (by omega))
  have c0 : w1.cell? ⟨w.heap.size, 0, none⟩ = some (.int .i64 0) := by rw [hb1.cell (p := ⟨w.heap.size, 0, none⟩) (by simp)]; simp
  have c1 : w1.cell? ⟨w.heap.size, 1, none⟩ = some (.int .i64 0) := by rw [hb1.cell (p := ⟨w.heap.size, 1, none⟩) (by simp)]; simp
  have c2 : w1.cell? ⟨w.heap.size, 2, none⟩ = some (.string ⟨#[]⟩) := by rw [hb1.cell (p := ⟨w.heap.size, 2, none⟩) (by simp)]; simp
  have c3 : w1.cell? ⟨w.heap.size, 3, none⟩ = some (.int .u64 0) := by rw [hb1.cell (p := ⟨w.heap.size, 3, none⟩) (by simp)]; simp
  have z0 : ∀ o, w1.frozen? ⟨w.heap.size, o, none⟩ = false := fun o => by rw [hb1.frozen (p := ⟨w.heap.size, o, none⟩) (by simp)]; simp
  clear hb1
  have hcon := contains_any wordL (w.heap.size + 1) 25 t w1 (by decide) ht1
  rw [show wordL.length = 25 from rfl] at hcon
  have HCON := Lib.hid hcon; have HT1 := Lib.hid ht1; clear hcon ht1
  go_wp2_with fail
  refine HCON.out.mono ?_
  rintro e w' ⟨rfl, rfl⟩
  rw [H1.out]
  go_wp2_with fail
  exact bodyPost_ret (v := .tuple #[tokV 3 k t 0, .int .i64 0]) (by simp [results, Tryd.results77, go_sem, c0, c1, c2, c3]) rfl ⟨rfl, (((hb0.setCell (by simp) _).setCell (by simp) _).setCell (by simp) _).setCell (by simp) _⟩
set_option maxHeartbeats 800000 in
set_option maxRecDepth 20000 in
theorem name_long (s : ByteArray) (k e : Nat) (t : ByteArray) (w : World) (hs : s.size ≤ 100000) (hk : k ≤ s.size) (he : beh bName s k = e) (ht : s.extract k e = t) (h1 : isOne wordL t = false) (h2 : 30 < t.size) :
    Calls Tryd.prog 77 #[.string s, .int .i64 k] w fun e w' => e = .returned (.tuple #[tokV 0 0 ⟨#[]⟩ 0, .int .i64 3]) ∧ Below w.heap.size w w' := by
  have hz : e ≤ s.size := he ▸ beh_size hk
  have hz2 : k ≤ e := he ▸ beh_le
  have HE := Lib.hid he; have HT := Lib.hid ht; have H1 := Lib.hid h1; clear he ht h1
  go_enter Tryd.func77, Tryd.ntmps77
  go_wp2_with fail
  refine (behind_name s k _ hs hk).mono ?_
  rintro e w' ⟨rfl, rfl⟩
  rw [HE.out]
  go_wp2_with fail
  rw [HT.out]
  refine (words_any _).mono ?_
  rintro e w1 ⟨rfl, ht1, hb1, hz1⟩
  simp only [World.size_alloc] at ht1 hb1 hz1
  have hb0 : Below w.heap.size w w1 := ((Below.refl _ _).alloc (Nat.le_refl _) _).trans (hb1.mono (by omega))
  have c0 : w1.cell? ⟨w.heap.size, 0, none⟩ = some (.int .i64 0) := by rw [hb1.cell (p := ⟨w.heap.size, 0, none⟩) (by simp)]; simp
  have c1 : w1.cell? ⟨w.heap.size, 1, none⟩ = some (.int .i64 0) := by rw [hb1.cell (p := ⟨w.heap.size, 1, none⟩) (by simp)]; simp
  have c2 : w1.cell? ⟨w.heap.size, 2, none⟩ = some (.string ⟨#[]⟩) := by rw [hb1.cell (p := ⟨w.heap.size, 2, none⟩) (by simp)]; simp
  have c3 : w1.cell? ⟨w.heap.size, 3, none⟩ = some (.int .u64 0) := by rw [hb1.cell (p := ⟨w.heap.size, 3, none⟩) (by simp)]; simp
  have z0 : ∀ o, w1.frozen? ⟨w.heap.size, o, none⟩ = false := fun o => by rw [hb1.frozen (p := ⟨w.heap.size, o, none⟩) (by simp)]; simp
  clear hb1
  have hcon := contains_any wordL (w.heap.size + 1) 25 t w1 (by decide) ht1
  rw [show wordL.length = 25 from rfl] at hcon
  have HCON := Lib.hid hcon; have HT1 := Lib.hid ht1; clear hcon ht1
  go_wp2_with fail
  refine HCON.out.mono ?_
  rintro e w' ⟨rfl, rfl⟩
  rw [H1.out]
  go_wp2_with fail
  exact bodyPost_ret (v := .tuple #[tokV 0 0 ⟨#[]⟩ 0, .int .i64 3]) (by simp [results, Tryd.results77, go_sem, c0, c1, c2, c3]) rfl ⟨rfl, (((hb0.setCell (by simp) _).setCell (by simp) _).setCell (by simp) _).setCell (by simp) _⟩
set_option maxHeartbeats 800000 in
set_option maxRecDepth 20000 in
theorem name_name (s : ByteArray) (k e : Nat) (t : ByteArray) (w : World) (hs : s.size ≤ 100000) (hk : k ≤ s.size) (he : beh bName s k = e) (ht : s.extract k e = t) (h1 : isOne wordL t = false) (h2 : t.size ≤ 30) :
    Calls Tryd.prog 77 #[.string s, .int .i64 k] w fun e w' => e = .returned (.tuple #[tokV 1 k t 0, .int .i64 0]) ∧ Below w.heap.size w w' := by
  have hz : e ≤ s.size := he ▸ beh_size hk
  have hz2 : k ≤ e := he ▸ beh_le
  have HE := Lib.hid he; have HT := Lib.hid ht; have H1 := Lib.hid h1; clear he ht h1
  go_enter Tryd.func77, Tryd.ntmps77
  go_wp2_with fail
  refine (behind_name s k _ hs hk).mono ?_
  rintro e w' ⟨rfl, rfl⟩
  rw [HE.out]
  go_wp2_with fail
  rw [HT.out]
  refine (words_any _).mono ?_
  rintro e w1 ⟨rfl, ht1, hb1, hz1⟩
  simp only [World.size_alloc] at ht1 hb1 hz1
  have hb0 : Below w.heap.size w w1 := ((Below.refl _ _).alloc (Nat.le_refl _) _).trans (hb1.mono (by omega))
  have c0 : w1.cell? ⟨w.heap.size, 0, none⟩ = some (.int .i64 0) := by rw [hb1.cell (p := ⟨w.heap.size, 0, none⟩) (by simp)]; simp
  have c1 : w1.cell? ⟨w.heap.size, 1, none⟩ = some (.int .i64 0) := by rw [hb1.cell (p := ⟨w.heap.size, 1, none⟩) (by simp)]; simp
  have c2 : w1.cell? ⟨w.heap.size, 2, none⟩ = some (.string ⟨#[]⟩) := by rw [hb1.cell (p := ⟨w.heap.size, 2, none⟩) (by simp)]; simp
  have c3 : w1.cell? ⟨w.heap.size, 3, none⟩ = some (.int .u64 0) := by rw [hb1.cell (p := ⟨w.heap.size, 3, none⟩) (by simp)]; simp
  have z0 : ∀ o, w1.frozen? ⟨w.heap.size, o, none⟩ = false := fun o => by rw [hb1.frozen (p := ⟨w.heap.size, o, none⟩) (by simp)]; simp
  clear hb1
  have hcon := contains_any wordL (w.heap.size + 1) 25 t w1 (by decide) ht1
  rw [show wordL.length = 25 from rfl] at hcon
  have HCON := Lib.hid hcon; have HT1 := Lib.hid ht1; clear hcon ht1
  go_wp2_with fail
  refine HCON.out.mono ?_
  rintro e w' ⟨rfl, rfl⟩
  rw [H1.out]
  go_wp2_with fail
  exact bodyPost_ret (v := .tuple #[tokV 1 k t 0, .int .i64 0]) (by simp [results, Tryd.results77, go_sem, c0, c1, c2, c3]) rfl ⟨rfl, (((hb0.setCell (by simp) _).setCell (by simp) _).setCell (by simp) _).setCell (by simp) _⟩
end Go.Proofs.YthhkjjdhecpmlaaDoor
