/-
  SoloClocks: an instant, whatever went before.
-/
import Derived.Test.YtpjffjgdnendbaaGreatDoorWUfsc
noncomputable section
namespace Go.Ax
open Go.RowKit Go.Proofs
set_option linter.unusedVariables false
set_option linter.unusedSimpArgs false
set_option maxRecDepth 100000

theorem wadd {n : Nat} (h : n ≤ 1000000) : wrap64R (addI (n : Int) 1) = ((n + 1 : Nat) : Int) := by
  rw [wrap64R_eq, addI_eq]; exact wrap_one (by omega)
/-- How a unit stands: so many instants, at so many of which the truth was true. -/
structure ScI (S : St) (cy nn : Nat) : Prop where
  next : 3014 ≤ S.next
  obj : S.mem.get 2950 = some (.box scObj)
  mem : S.mem.get 3013 = some (.box scMem)
  pl : ∃ v0 v1 v2 v3 v4 v5 v6 v7 v8 v9 v10 v11 v12 v13 v14 v15 v16 v17 v18 v19 v20 : Int, S.mem.get 2949 = some (.box (scP v0 v1 v2 v3 v4 v5 v6 v7 v8 v9 v10 v11 v12 v13 v14 v15 v16 v17 v18 v19 v20)) ∧ v7 = (if cy = 0 then 1 else 0) ∧ v10 = (cy : Int) ∧ v11 = (nn : Int) ∧ v13 = (if cy + nn = 0 then 1 else 0) ∧ v15 = (cy : Int) ∧ v17 = (if cy + nn = 0 then 1 else 0) ∧ v19 = ((nn - 1 : Nat) : Int)
theorem ScI.of {S : St} {cy nn : Nat} {v0 v1 v2 v3 v4 v5 v6 v7 v8 v9 v10 v11 v12 v13 v14 v15 v16 v17 v18 v19 v20 : Int} (hf : 3014 ≤ S.next ∧ S.mem.get 2950 = some (.box scObj) ∧ S.mem.get 2949 = some (.box (scP v0 v1 v2 v3 v4 v5 v6 v7 v8 v9 v10 v11 v12 v13 v14 v15 v16 v17 v18 v19 v20)) ∧ S.mem.get 3013 = some (.box scMem))
    (e : v7 = (if cy = 0 then 1 else 0) ∧ v10 = (cy : Int) ∧ v11 = (nn : Int) ∧ v13 = (if cy + nn = 0 then 1 else 0) ∧ v15 = (cy : Int) ∧ v17 = (if cy + nn = 0 then 1 else 0) ∧ v19 = ((nn - 1 : Nat) : Int)) : ScI S cy nn :=
  ⟨hf.1, hf.2.1, hf.2.2.2, _, _, _, _, _, _, _, _, _, _, _, _, _, _, _, _, _, _, _, _, _, hf.2.2.1, e⟩
theorem okObj : okC 3014 (some (.box scObj)) = true := by kernel_rfl
theorem okMem : okC 3014 (some (.box scMem)) = true := by kernel_rfl
theorem okPl (v0 v1 v2 v3 v4 v5 v6 v7 v8 v9 v10 v11 v12 v13 v14 v15 v16 v17 v18 v19 v20 : Int) : okC 3014 (some (.box (scP v0 v1 v2 v3 v4 v5 v6 v7 v8 v9 v10 v11 v12 v13 v14 v15 v16 v17 v18 v19 v20))) = true := by kernel_rfl
theorem okArgs (x : Int) : ltL 3014 [.ptr 2950 0, rowI 1 0 [x]] = true := by kernel_rfl
theorem sc_in {S : St} {cs : List AV} (x : Int) (hn : 3014 ≤ S.next) (h1 : S.mem.get 2950 = some (.box scObj)) (h3 : S.mem.get 3013 = some (.box scMem)) (h2 : S.mem.get 2949 = some (.box cs)) (hk : okC 3014 (some (.box cs)) = true) :
    smallIn 3014 [2950, 2949, 3013] [.ptr 2950 0, rowI 1 0 [x]] S = true ∧ subM S [2950, 2949, 3013] = T.set (T.set (T.set .leaf 3013 (some (.box scMem))) 2949 (some (.box cs))) 2950 (some (.box scObj)) := by
  refine ⟨?_, by simp only [subM, h1, h2, h3]⟩
  unfold smallIn
  simp only [List.all_cons, List.all_nil, h1, h2, h3, okObj, okMem, hk, okArgs, Bool.and_true, Nat.ble_eq_true_of_le hn]
  rfl
theorem sc_fin {S S' : St} {a b c : Cell} (hn : 3014 ≤ S.next) (h2 : S'.next = S.next) (h4 : [2950, 2949, 3013].map S'.mem.get = [some a, some b, some c]) : 3014 ≤ S'.next ∧ S'.mem.get 2950 = some a ∧ S'.mem.get 2949 = some b ∧ S'.mem.get 3013 = some c := by
  simp only [List.map_cons, List.map_nil, List.cons.injEq, and_true] at h4
  exact ⟨by omega, h4.1, h4.2.1, h4.2.2⟩
def scIn (b : Bool) : Int := if b then 1 else 0
theorem sc_round (S : St) (cy nn : Nat) (h : ScI S cy nn) (hc : cy + nn ≤ 1000) (b : Bool) (cy' nn' : Nat) (hcy : cy' = if b then cy + 1 else cy) (hnn : nn' = if b then nn else nn + 1) :
    ∃ S', viaSmall E1 2000 11 3014 [2950, 2949, 3013] [.ptr 2950 0, rowI 1 0 [scIn b]] S = .ret (rowI 0 0 [(cy' : Int), ((nn' - 1 : Nat) : Int)]) S' ∧ ScI S' cy' nn' := by
  obtain ⟨hn, ho, hm, v0, v1, v2, v3, v4, v5, v6, v7, v8, v9, v10, v11, v12, v13, v14, v15, v16, v17, v18, v19, v20, hp, e7, e10, e11, e13, e15, e17, e19⟩ := h
  have hw1 := wadd (n := cy) (by omega)
  have hw2 := wadd (n := nn) (by omega)
  subst e10; subst e11; subst e15; subst e19
  cases b with
  | true =>
    simp only [if_true] at hcy hnn
    rw [hcy, hnn]
    by_cases hz : cy + nn = 0
    · obtain ⟨rfl, rfl⟩ : cy = 0 ∧ nn = 0 := by omega
      rw [if_pos rfl] at e7 e13 e17
      subst e7; subst e13; subst e17
      obtain ⟨q1, q2⟩ := sc_in (scIn true) hn ho hm hp (okPl ..)
      obtain ⟨S', r1, r2, r3, r4⟩ := via_eq (k := 11) q1 (by rw [q2]; exact sc_step_111 ..) (by simp only [List.all_cons, List.all_nil, okObj, okMem, okPl, Bool.and_true])
      have hf := sc_fin hn r2 r4
      refine ⟨S', r1.trans ?_, ScI.of hf ?_⟩
      · rfl
      · exact ⟨(by first | rfl | (simp; done) | (simp; omega) | (rw [if_neg (by omega)])), (by first | rfl | (simp [hw1]; done) | (simp [hw1]; omega) | (rw [if_neg (by omega)])), (by first | rfl | (simp [hw2]; done) | (simp [hw2]; omega) | (rw [if_neg (by omega)])), (by first | rfl | (simp; done) | (simp; omega) | (rw [if_neg (by omega)])), (by first | rfl | (simp [hw1]; done) | (simp [hw1]; omega) | (rw [if_neg (by omega)])), (by first | rfl | (simp; done) | (simp; omega) | (rw [if_neg (by omega)])), (by first | rfl | (simp; done) | (simp; omega) | (rw [if_neg (by omega)]))⟩
    · by_cases hy : cy = 0
      · subst hy
        rw [if_pos rfl] at e7
        rw [if_neg hz] at e13 e17
        subst e7; subst e13; subst e17
        obtain ⟨q1, q2⟩ := sc_in (scIn true) hn ho hm hp (okPl ..)
        obtain ⟨S', r1, r2, r3, r4⟩ := via_eq (k := 11) q1 (by rw [q2]; exact sc_step_110 ..) (by simp only [List.all_cons, List.all_nil, okObj, okMem, okPl, Bool.and_true])
        have hf := sc_fin hn r2 r4
        refine ⟨S', r1.trans ?_, ScI.of hf ?_⟩
        · rfl
        · exact ⟨(by first | rfl | (simp; done) | (simp; omega) | (rw [if_neg (by omega)])), (by first | rfl | (simp [hw1]; done) | (simp [hw1]; omega) | (rw [if_neg (by omega)])), (by first | rfl | (simp [hw2]; done) | (simp [hw2]; omega) | (rw [if_neg (by omega)])), (by first | rfl | (simp; done) | (simp; omega) | (rw [if_neg (by omega)])), (by first | rfl | (simp [hw1]; done) | (simp [hw1]; omega) | (rw [if_neg (by omega)])), (by first | rfl | (simp; done) | (simp; omega) | (rw [if_neg (by omega)])), (by first | rfl | (simp; done) | (simp; omega) | (rw [if_neg (by omega)]))⟩
      · skip
        rw [if_neg hy] at e7
        rw [if_neg hz] at e13 e17
        subst e7; subst e13; subst e17
        obtain ⟨q1, q2⟩ := sc_in (scIn true) hn ho hm hp (okPl ..)
        obtain ⟨S', r1, r2, r3, r4⟩ := via_eq (k := 11) q1 (by rw [q2]; exact sc_step_100 ..) (by simp only [List.all_cons, List.all_nil, okObj, okMem, okPl, Bool.and_true])
        have hf := sc_fin hn r2 r4
        refine ⟨S', r1.trans ?_, ScI.of hf ?_⟩
        · rw [hw1]
        · exact ⟨(by first | rfl | (simp [hy]; done) | (simp [hy]; omega) | (rw [if_neg (by omega)])), (by first | rfl | (simp [hw1]; done) | (simp [hw1]; omega) | (rw [if_neg (by omega)])), (by first | rfl | (simp [hw2]; done) | (simp [hw2]; omega) | (rw [if_neg (by omega)])), (by first | rfl | (simp [hy]; done) | (simp [hy]; omega) | (rw [if_neg (by omega)])), (by first | rfl | (simp [hw1]; done) | (simp [hw1]; omega) | (rw [if_neg (by omega)])), (by first | rfl | (simp [hy]; done) | (simp [hy]; omega) | (rw [if_neg (by omega)])), (by first | rfl | (simp; done) | (simp; omega) | (rw [if_neg (by omega)]))⟩
  | false =>
    simp only [Bool.false_eq_true, if_false] at hcy hnn
    rw [hcy, hnn]
    by_cases hz : cy + nn = 0
    · obtain ⟨rfl, rfl⟩ : cy = 0 ∧ nn = 0 := by omega
      rw [if_pos rfl] at e7 e13 e17
      subst e7; subst e13; subst e17
      obtain ⟨q1, q2⟩ := sc_in (scIn false) hn ho hm hp (okPl ..)
      obtain ⟨S', r1, r2, r3, r4⟩ := via_eq (k := 11) q1 (by rw [q2]; exact sc_step_011 ..) (by simp only [List.all_cons, List.all_nil, okObj, okMem, okPl, Bool.and_true])
      have hf := sc_fin hn r2 r4
      refine ⟨S', r1.trans ?_, ScI.of hf ?_⟩
      · rfl
      · exact ⟨(by first | rfl | (simp; done) | (simp; omega) | (rw [if_neg (by omega)])), (by first | rfl | (simp [hw1]; done) | (simp [hw1]; omega) | (rw [if_neg (by omega)])), (by first | rfl | (simp [hw2]; done) | (simp [hw2]; omega) | (rw [if_neg (by omega)])), (by first | rfl | (simp; done) | (simp; omega) | (rw [if_neg (by omega)])), (by first | rfl | (simp [hw1]; done) | (simp [hw1]; omega) | (rw [if_neg (by omega)])), (by first | rfl | (simp; done) | (simp; omega) | (rw [if_neg (by omega)])), (by first | rfl | (simp; done) | (simp; omega) | (rw [if_neg (by omega)]))⟩
    · by_cases hy : cy = 0
      · subst hy
        rw [if_pos rfl] at e7
        rw [if_neg hz] at e13 e17
        subst e7; subst e13; subst e17
        obtain ⟨q1, q2⟩ := sc_in (scIn false) hn ho hm hp (okPl ..)
        obtain ⟨S', r1, r2, r3, r4⟩ := via_eq (k := 11) q1 (by rw [q2]; exact sc_step_010 ..) (by simp only [List.all_cons, List.all_nil, okObj, okMem, okPl, Bool.and_true])
        have hf := sc_fin hn r2 r4
        refine ⟨S', r1.trans ?_, ScI.of hf ?_⟩
        · rfl
        · exact ⟨(by first | rfl | (simp; done) | (simp; omega) | (rw [if_neg (by omega)])), (by first | rfl | (simp [hw1]; done) | (simp [hw1]; omega) | (rw [if_neg (by omega)])), (by first | rfl | (simp [hw2]; done) | (simp [hw2]; omega) | (rw [if_neg (by omega)])), (by first | rfl | (simp; done) | (simp; omega) | (rw [if_neg (by omega)])), (by first | rfl | (simp [hw1]; done) | (simp [hw1]; omega) | (rw [if_neg (by omega)])), (by first | rfl | (simp; done) | (simp; omega) | (rw [if_neg (by omega)])), (by first | rfl | (simp; done) | (simp; omega) | (rw [if_neg (by omega)]))⟩
      · skip
        rw [if_neg hy] at e7
        rw [if_neg hz] at e13 e17
        subst e7; subst e13; subst e17
        obtain ⟨q1, q2⟩ := sc_in (scIn false) hn ho hm hp (okPl ..)
        obtain ⟨S', r1, r2, r3, r4⟩ := via_eq (k := 11) q1 (by rw [q2]; exact sc_step_000 ..) (by simp only [List.all_cons, List.all_nil, okObj, okMem, okPl, Bool.and_true])
        have hf := sc_fin hn r2 r4
        refine ⟨S', r1.trans ?_, ScI.of hf ?_⟩
        · rfl
        · exact ⟨(by first | rfl | (simp [hy]; done) | (simp [hy]; omega) | (rw [if_neg (by omega)])), (by first | rfl | (simp [hw1]; done) | (simp [hw1]; omega) | (rw [if_neg (by omega)])), (by first | rfl | (simp [hw2]; done) | (simp [hw2]; omega) | (rw [if_neg (by omega)])), (by first | rfl | (simp [hy]; done) | (simp [hy]; omega) | (rw [if_neg (by omega)])), (by first | rfl | (simp [hw1]; done) | (simp [hw1]; omega) | (rw [if_neg (by omega)])), (by first | rfl | (simp [hy]; done) | (simp [hy]; omega) | (rw [if_neg (by omega)])), (by first | rfl | (simp; done) | (simp; omega) | (rw [if_neg (by omega)]))⟩
end Go.Ax
