/-
  Package lex: number.
-/
import Derived.Test.YthhkjjdhecpmlaaDoorLxE
import Derived.Test.YthhkjjdhecpmlaaDoorLxN
import Derived.Test.YthhkjjdhecpmlaaDoorShelfP
import Derived.Lib.SmallJoins
namespace Go.Proofs.YthhkjjdhecpmlaaDoor
open Go.RowKit
set_option linter.unusedVariables false
set_option linter.unusedSimpArgs false

/-- strconv.ErrRange holds an error. -/
def Rng (w : World) : Prop := ∃ te pe, w.cell? ⟨2, 0, none⟩ = some (.iface te pe)
theorem Rng.size {w : World} (h : Rng w) : 2 < w.heap.size := by
  obtain ⟨te, pe, h⟩ := h
  by_cases h0 : 2 < w.heap.size
  · exact h0
  · exfalso
    have e : w.heap[2]? = none := Array.getElem?_eq_none (by omega)
    unfold World.cell? at h
    simp [e] at h
theorem Rng.below {w w' : World} (h : Rng w) (hb : Below w.heap.size w w') : Rng w' := by
  have hz := h.size
  obtain ⟨te, pe, h⟩ := h
  exact ⟨te, pe, (hb.cell (p := ⟨2, 0, none⟩) hz).trans h⟩

/-- An error that is not nil beside a number. -/
def Errs (w : World) (e : Ending) (w' : World) : Prop := ∃ N, e = .returned (.tuple #[.int .u64 18446744073709551615, .iface 171 (.pointer (some ⟨N, 0, none⟩))]) ∧ Below w.heap.size w w'

theorem parse_fine (t : ByteArray) (hz : t.size ≤ 100000) (hn : t.data.toList ≠ []) (hd : Digs t.data.toList) (h : numV 0 t.data.toList < 18446744073709551616) (w : World) :
    Calls Tryd.prog 98 #[.string t, .int .i64 10, .int .i64 64] w fun e w' => e = .returned (.tuple #[.int .u64 (numV 0 t.data.toList), .nilIface]) ∧ Below w.heap.size w w' :=
  (Tryd.strconv_ParseUint_10_at64_ok t (by omega) _ (parse_ok hn hd h) w).mono fun e w' ⟨he, hw⟩ => ⟨he, by
    rcases hw with rfl | rfl
    · exact Below.refl _ _
    · exact Joins.below_bytesWorld _ _ _ _ (Nat.le_refl _)⟩
theorem parse_errs (t : ByteArray) (hz : t.size ≤ 100000) (hn : t.data.toList ≠ []) (hd : Digs t.data.toList) (h : 18446744073709551616 ≤ numV 0 t.data.toList) (w : World) (hr : Rng w) :
    Calls Tryd.prog 98 #[.string t, .int .i64 10, .int .i64 64] w (Errs w) := by
  obtain ⟨te, pe, hc⟩ := hr
  exact (Tryd.strconv_ParseUint_10_at64_range t (by omega) (parse_range hn hd h) _ w hc (Or.inr ⟨te, pe, rfl⟩)).mono fun e w' ⟨N, he, _, _, hb⟩ => ⟨N, he, hb⟩

theorem digs_of (s : ByteArray) (k : Nat) : Digs (s.extract k (beh bDigit s k)).data.toList := by
  intro c hc
  have e : (s.extract k (beh bDigit s k)).data.toList = (s.data.toList.drop k).takeWhile bDigit := by
    unfold beh
    simp
    have := List.takeWhile_prefix (p := bDigit) (l := s.data.toList.drop k)
    rw [List.prefix_iff_eq_take] at this
    exact this.symm
  rw [e] at hc
  have : ∀ l : List UInt8, c ∈ l.takeWhile bDigit → bDigit c = true := by
    intro l
    induction l with
    | nil => intro h; simp at h
    | cons x r ih =>
      rw [List.takeWhile_cons]
      split
      · intro h
        rcases List.mem_cons.1 h with rfl | h
        · assumption
        · exact ih h
      · intro h; simp at h
  exact (bDigit_iff c).1 (this _ hc)

/-- The token of a row of digits. -/
def numTok (k : Nat) (t : ByteArray) : Value × Int :=
  if 1 < t.size ∧ t.data.toList.head? = some 48 then (tokV 0 0 ⟨#[]⟩ 0, 1)
  else if 9223372036854775808 < numV 0 t.data.toList then (tokV 0 0 ⟨#[]⟩ 0, 3)
  else (tokV 2 k t (numV 0 t.data.toList), 0)
theorem head_of {t : ByteArray} (h : 0 < t.size) : t.data.toList.head? = some t[0] := by
  rw [List.head?_eq_getElem?, List.getElem?_eq_getElem (by simpa using h)]; rfl
theorem numTok_zero {k : Nat} {t : ByteArray} (h1 : 1 < t.size) (hp : 0 < t.size) (h2 : (((t[0]'hp).toNat : Int) == 48) = true) : numTok k t = (tokV 0 0 ⟨#[]⟩ 0, 1) := by
  unfold numTok
  rw [if_pos ⟨h1, by
    rw [head_of hp]
    have := beq_iff_eq.1 h2
    exact congrArg some (UInt8.toNat_inj.1 (by show (t[0]'hp).toNat = 48; omega))⟩]
theorem numTok_pass {k : Nat} {t : ByteArray} (h : t.size ≤ 1 ∨ ∃ hp : 0 < t.size, (((t[0]'hp).toNat : Int) == 48) = false) :
    numTok k t = if 9223372036854775808 < numV 0 t.data.toList then (tokV 0 0 ⟨#[]⟩ 0, 3) else (tokV 2 k t (numV 0 t.data.toList), 0) := by
  unfold numTok
  rw [if_neg]
  rintro ⟨h1, h2⟩
  rcases h with h | ⟨hp, h⟩
  · omega
  · rw [head_of hp] at h2
    have h3 := Option.some.inj h2
    rw [h3] at h
    exact absurd h (by decide)

set_option maxHeartbeats 1000000 in
set_option maxRecDepth 20000 in
/-- Behind the test for a needless 0. -/
theorem number_any (s : ByteArray) (k e : Nat) (u : Nat) (w : World) (hs : s.size ≤ 100000) (hk : k < s.size) (hd : bDigit s[k] = true) (he : beh bDigit s k = e)
    (hu : numV 0 (s.extract k e).data.toList = u) (hr : Rng w) :
    Calls Tryd.prog 79 #[.string s, .int .i64 k] w fun x w' => x = .returned (.tuple #[(numTok k (s.extract k e)).1, .int .i64 (numTok k (s.extract k e)).2]) ∧ Below w.heap.size w w' := by
  have hz : e ≤ s.size := he ▸ beh_size (by omega)
  have hz2 : k + 1 ≤ e := by rw [← he, beh_step hk hd]; exact beh_le
  have hsz : (s.extract k e).size = e - k := by simp; omega
  have hdg : Digs (s.extract k e).data.toList := he ▸ digs_of s k
  have hnn : (s.extract k e).data.toList ≠ [] := by
    intro h
    have h2 := congrArg List.length h
    have e2 : (s.extract k e).data.toList.length = (s.extract k e).size := rfl
    rw [e2, hsz] at h2
    simp at h2; omega
  have HE := Lib.hid he; have HU := Lib.hid hu; have HR := Lib.hid hr; have HD := Lib.hid hdg; have HN := Lib.hid hnn; have HS := Lib.hid hsz
  clear he hu hr hdg hnn hsz hd
  go_enter Tryd.func79, Tryd.ntmps79
  go_wp2_with fail
  refine (behind_digit s k _ hs (by omega)).mono ?_
  rintro e w' ⟨rfl, rfl⟩
  rw [HE.out]
  go_wp2_with fail
  · rename_i h1 h3 h2
    rw [numTok_zero (by rw [HS.out]; omega) (by rw [HS.out]; omega) h2]
    exact bodyPost_ret (v := .tuple #[tokV 0 0 ⟨#[]⟩ 0, .int .i64 1]) (by simp [results, Tryd.results79, go_sem]) rfl ⟨rfl, (Below.refl _ _).alloc (Nat.le_refl _) _⟩
  · have hpass := numTok_pass (k := k) (t := s.extract k e) (Or.inr ⟨by rw [HS.out]; omega, by assumption⟩)
    rw [HU.out] at hpass
    by_cases hA : (9223372036854775808 : Int) < (u : Int)
    · have hv : numTok k (s.extract k e) = (tokV 0 0 ⟨#[]⟩ 0, 3) := by rw [hpass, if_pos (by omega)]
      have HV := Lib.hid hv; clear hv hpass
      by_cases hB : u < 18446744073709551616
      · have hp := parse_fine (s.extract k e) (by rw [HS.out]; omega) HN.out HD.out (by rw [HU.out]; exact hB)
        rw [HU.out] at hp
        have HPF := Lib.hid hp; clear hp hB
        refine (HPF.out _).mono ?_
        rintro x w1 ⟨rfl, hb1⟩
        simp only [World.size_alloc] at hb1
        have hb0 : Below w.heap.size w w1 := ((Below.refl _ _).alloc (Nat.le_refl _) _).trans (hb1.mono (by omega))
        have c0 : w1.cell? ⟨w.heap.size, 0, none⟩ = some (.int .i64 0) := by rw [hb1.cell (p := ⟨w.heap.size, 0, none⟩) (by simp)]; simp
        have c1 : w1.cell? ⟨w.heap.size, 1, none⟩ = some (.int .i64 0) := by rw [hb1.cell (p := ⟨w.heap.size, 1, none⟩) (by simp)]; simp
        have c2 : w1.cell? ⟨w.heap.size, 2, none⟩ = some (.string ⟨#[]⟩) := by rw [hb1.cell (p := ⟨w.heap.size, 2, none⟩) (by simp)]; simp
        have c3 : w1.cell? ⟨w.heap.size, 3, none⟩ = some (.int .u64 0) := by rw [hb1.cell (p := ⟨w.heap.size, 3, none⟩) (by simp)]; simp
        have z0 : ∀ o, w1.frozen? ⟨w.heap.size, o, none⟩ = false := fun o => by rw [hb1.frozen (p := ⟨w.heap.size, o, none⟩) (by simp)]; simp
        clear hb1
        go_wp2_with fail
        rw [HV.out]
        exact bodyPost_ret (v := .tuple #[tokV 0 0 ⟨#[]⟩ 0, .int .i64 3]) (by simp [results, Tryd.results79, go_sem, c0, c1, c2, c3]) rfl ⟨rfl, (((hb0.setCell (by simp) _).setCell (by simp) _).setCell (by simp) _).setCell (by simp) _⟩
      · have hp := parse_errs (s.extract k e) (by rw [HS.out]; omega) HN.out HD.out (by rw [HU.out]; omega)
        have HPF := Lib.hid hp; clear hp hB hA
        refine (HPF.out _ (HR.out.below ((Below.refl _ _).alloc (Nat.le_refl _) _))).mono ?_
        rintro x w1 ⟨N, rfl, hb1⟩
        simp only [World.size_alloc] at hb1
        have hb0 : Below w.heap.size w w1 := ((Below.refl _ _).alloc (Nat.le_refl _) _).trans (hb1.mono (by omega))
        have c0 : w1.cell? ⟨w.heap.size, 0, none⟩ = some (.int .i64 0) := by rw [hb1.cell (p := ⟨w.heap.size, 0, none⟩) (by simp)]; simp
        have c1 : w1.cell? ⟨w.heap.size, 1, none⟩ = some (.int .i64 0) := by rw [hb1.cell (p := ⟨w.heap.size, 1, none⟩) (by simp)]; simp
        have c2 : w1.cell? ⟨w.heap.size, 2, none⟩ = some (.string ⟨#[]⟩) := by rw [hb1.cell (p := ⟨w.heap.size, 2, none⟩) (by simp)]; simp
        have c3 : w1.cell? ⟨w.heap.size, 3, none⟩ = some (.int .u64 0) := by rw [hb1.cell (p := ⟨w.heap.size, 3, none⟩) (by simp)]; simp
        have z0 : ∀ o, w1.frozen? ⟨w.heap.size, o, none⟩ = false := fun o => by rw [hb1.frozen (p := ⟨w.heap.size, o, none⟩) (by simp)]; simp
        clear hb1
        go_wp2_with fail
        rw [HV.out]
        exact bodyPost_ret (v := .tuple #[tokV 0 0 ⟨#[]⟩ 0, .int .i64 3]) (by simp [results, Tryd.results79, go_sem, c0, c1, c2, c3]) rfl ⟨rfl, (((hb0.setCell (by simp) _).setCell (by simp) _).setCell (by simp) _).setCell (by simp) _⟩
    · have hv : numTok k (s.extract k e) = (tokV 2 k (s.extract k e) u, 0) := by rw [hpass, if_neg (by omega)]
      have HV := Lib.hid hv; clear hv hpass
      have hp := parse_fine (s.extract k e) (by rw [HS.out]; omega) HN.out HD.out (by rw [HU.out]; omega)
      rw [HU.out] at hp
      have HPF := Lib.hid hp; clear hp
      refine (HPF.out _).mono ?_
      rintro x w1 ⟨rfl, hb1⟩
      simp only [World.size_alloc] at hb1
      have hb0 : Below w.heap.size w w1 := ((Below.refl _ _).alloc (Nat.le_refl _) _).trans (hb1.mono (by omega))
      have c0 : w1.cell? ⟨w.heap.size, 0, none⟩ = some (.int .i64 0) := by rw [hb1.cell (p := ⟨w.heap.size, 0, none⟩) (by simp)]; simp
      have c1 : w1.cell? ⟨w.heap.size, 1, none⟩ = some (.int .i64 0) := by rw [hb1.cell (p := ⟨w.heap.size, 1, none⟩) (by simp)]; simp
      have c2 : w1.cell? ⟨w.heap.size, 2, none⟩ = some (.string ⟨#[]⟩) := by rw [hb1.cell (p := ⟨w.heap.size, 2, none⟩) (by simp)]; simp
      have c3 : w1.cell? ⟨w.heap.size, 3, none⟩ = some (.int .u64 0) := by rw [hb1.cell (p := ⟨w.heap.size, 3, none⟩) (by simp)]; simp
      have z0 : ∀ o, w1.frozen? ⟨w.heap.size, o, none⟩ = false := fun o => by rw [hb1.frozen (p := ⟨w.heap.size, o, none⟩) (by simp)]; simp
      clear hb1
      go_wp2_with fail
      rw [HV.out]
      exact bodyPost_ret (v := .tuple #[tokV 2 k (s.extract k e) u, .int .i64 0]) (by simp [results, Tryd.results79, go_sem, c0, c1, c2, c3]) rfl ⟨rfl, (((hb0.setCell (by simp) _).setCell (by simp) _).setCell (by simp) _).setCell (by simp) _⟩
  · have hpass := numTok_pass (k := k) (t := s.extract k e) (Or.inl (by rw [HS.out]; omega))
    rw [HU.out] at hpass
    by_cases hA : (9223372036854775808 : Int) < (u : Int)
    · have hv : numTok k (s.extract k e) = (tokV 0 0 ⟨#[]⟩ 0, 3) := by rw [hpass, if_pos (by omega)]
      have HV := Lib.hid hv; clear hv hpass
      by_cases hB : u < 18446744073709551616
      · have hp := parse_fine (s.extract k e) (by rw [HS.out]; omega) HN.out HD.out (by rw [HU.out]; exact hB)
        rw [HU.out] at hp
        have HPF := Lib.hid hp; clear hp hB
        refine (HPF.out _).mono ?_
        rintro x w1 ⟨rfl, hb1⟩
        simp only [World.size_alloc] at hb1
        have hb0 : Below w.heap.size w w1 := ((Below.refl _ _).alloc (Nat.le_refl _) _).trans (hb1.mono (by omega))
        have c0 : w1.cell? ⟨w.heap.size, 0, none⟩ = some (.int .i64 0) := by rw [hb1.cell (p := ⟨w.heap.size, 0, none⟩) (by simp)]; simp
        have c1 : w1.cell? ⟨w.heap.size, 1, none⟩ = some (.int .i64 0) := by rw [hb1.cell (p := ⟨w.heap.size, 1, none⟩) (by simp)]; simp
        have c2 : w1.cell? ⟨w.heap.size, 2, none⟩ = some (.string ⟨#[]⟩) := by rw [hb1.cell (p := ⟨w.heap.size, 2, none⟩) (by simp)]; simp
        have c3 : w1.cell? ⟨w.heap.size, 3, none⟩ = some (.int .u64 0) := by rw [hb1.cell (p := ⟨w.heap.size, 3, none⟩) (by simp)]; simp
        have z0 : ∀ o, w1.frozen? ⟨w.heap.size, o, none⟩ = false := fun o => by rw [hb1.frozen (p := ⟨w.heap.size, o, none⟩) (by simp)]; simp
        clear hb1
        go_wp2_with fail
        rw [HV.out]
        exact bodyPost_ret (v := .tuple #[tokV 0 0 ⟨#[]⟩ 0, .int .i64 3]) (by simp [results, Tryd.results79, go_sem, c0, c1, c2, c3]) rfl ⟨rfl, (((hb0.setCell (by simp) _).setCell (by simp) _).setCell (by simp) _).setCell (by simp) _⟩
      · have hp := parse_errs (s.extract k e) (by rw [HS.out]; omega) HN.out HD.out (by rw [HU.out]; omega)
        have HPF := Lib.hid hp; clear hp hB hA
        refine (HPF.out _ (HR.out.below ((Below.refl _ _).alloc (Nat.le_refl _) _))).mono ?_
        rintro x w1 ⟨N, rfl, hb1⟩
        simp only [World.size_alloc] at hb1
        have hb0 : Below w.heap.size w w1 := ((Below.refl _ _).alloc (Nat.le_refl _) _).trans (hb1.mono (by omega))
        have c0 : w1.cell? ⟨w.heap.size, 0, none⟩ = some (.int .i64 0) := by rw [hb1.cell (p := ⟨w.heap.size, 0, none⟩) (by simp)]; simp
        have c1 : w1.cell? ⟨w.heap.size, 1, none⟩ = some (.int .i64 0) := by rw [hb1.cell (p := ⟨w.heap.size, 1, none⟩) (by simp)]; simp
        have c2 : w1.cell? ⟨w.heap.size, 2, none⟩ = some (.string ⟨#[]⟩) := by rw [hb1.cell (p := ⟨w.heap.size, 2, none⟩) (by simp)]; simp
        have c3 : w1.cell? ⟨w.heap.size, 3, none⟩ = some (.int .u64 0) := by rw [hb1.cell (p := ⟨w.heap.size, 3, none⟩) (by simp)]; simp
        have z0 : ∀ o, w1.frozen? ⟨w.heap.size, o, none⟩ = false := fun o => by rw [hb1.frozen (p := ⟨w.heap.size, o, none⟩) (by simp)]; simp
        clear hb1
        go_wp2_with fail
        rw [HV.out]
        exact bodyPost_ret (v := .tuple #[tokV 0 0 ⟨#[]⟩ 0, .int .i64 3]) (by simp [results, Tryd.results79, go_sem, c0, c1, c2, c3]) rfl ⟨rfl, (((hb0.setCell (by simp) _).setCell (by simp) _).setCell (by simp) _).setCell (by simp) _⟩
    · have hv : numTok k (s.extract k e) = (tokV 2 k (s.extract k e) u, 0) := by rw [hpass, if_neg (by omega)]
      have HV := Lib.hid hv; clear hv hpass
      have hp := parse_fine (s.extract k e) (by rw [HS.out]; omega) HN.out HD.out (by rw [HU.out]; omega)
      rw [HU.out] at hp
      have HPF := Lib.hid hp; clear hp
      refine (HPF.out _).mono ?_
      rintro x w1 ⟨rfl, hb1⟩
      simp only [World.size_alloc] at hb1
      have hb0 : Below w.heap.size w w1 := ((Below.refl _ _).alloc (Nat.le_refl _) _).trans (hb1.mono (by omega))
      have c0 : w1.cell? ⟨w.heap.size, 0, none⟩ = some (.int .i64 0) := by rw [hb1.cell (p := ⟨w.heap.size, 0, none⟩) (by simp)]; simp
      have c1 : w1.cell? ⟨w.heap.size, 1, none⟩ = some (.int .i64 0) := by rw [hb1.cell (p := ⟨w.heap.size, 1, none⟩) (by simp)]; simp
      have c2 : w1.cell? ⟨w.heap.size, 2, none⟩ = some (.string ⟨#[]⟩) := by rw [hb1.cell (p := ⟨w.heap.size, 2, none⟩) (by simp)]; simp
      have c3 : w1.cell? ⟨w.heap.size, 3, none⟩ = some (.int .u64 0) := by rw [hb1.cell (p := ⟨w.heap.size, 3, none⟩) (by simp)]; simp
      have z0 : ∀ o, w1.frozen? ⟨w.heap.size, o, none⟩ = false := fun o => by rw [hb1.frozen (p := ⟨w.heap.size, o, none⟩) (by simp)]; simp
      clear hb1
      go_wp2_with fail
      rw [HV.out]
      exact bodyPost_ret (v := .tuple #[tokV 2 k (s.extract k e) u, .int .i64 0]) (by simp [results, Tryd.results79, go_sem, c0, c1, c2, c3]) rfl ⟨rfl, (((hb0.setCell (by simp) _).setCell (by simp) _).setCell (by simp) _).setCell (by simp) _⟩
end Go.Proofs.YthhkjjdhecpmlaaDoor
