/-
  SoloClocks: an instant of its unit, reckoned.
-/
import Derived.Test.YtgnohckncmhodaaGreatDoorSkZsUesc
import Derived.Test.YtgnohckncmhodaaGreatDoorSkG10
import Derived.Deep.Strs
import Derived.Deep.Grids
set_option linter.unusedVariables false
set_option linter.unusedSimpArgs false
set_option maxHeartbeats 16000000
noncomputable section
namespace Go.Ax
open Go.RowKit Go.Proofs
set_option linter.unusedVariables false
set_option linter.unusedSimpArgs false
set_option maxRecDepth 100000
theorem sc_step_011 (v0 v1 v2 v3 v4 v5 v6 v8 v9 v10 v11 v12 v14 v15 v16 v18 v19 v20 : Int) : seeR [3003, 2995, 2951] (callX E1 2000 27 [.ptr 3003 0, rowI 1 0 [(0)]] ⟨3017, T.set (T.set (T.set .leaf 2951 (some (.box scMem))) 2995 (some (.box (scP v0 v1 v2 v3 v4 v5 v6 (1) v8 v9 v10 v11 v12 (1) v14 v15 v16 (1) v18 v19 v20)))) 3003 (some (.box scObj))⟩) = some (rowI 0 0 [(0), v11], [some (.box scObj), some (.box (scP (0) (0) v11 v3 v11 v5 v6 (1) v8 v9 v10 (wrap64R (addI v11 (1))) (wrap64R (addI v11 (1))) (0) (0) (0) (0) (0) (0) v11 v11)), some (.box scMem)]) := by kernel_rfl
theorem sc_step_000 (v0 v1 v2 v3 v4 v5 v6 v8 v9 v10 v11 v12 v14 v15 v16 v18 v19 v20 : Int) : seeR [3003, 2995, 2951] (callX E1 2000 27 [.ptr 3003 0, rowI 1 0 [(0)]] ⟨3017, T.set (T.set (T.set .leaf 2951 (some (.box scMem))) 2995 (some (.box (scP v0 v1 v2 v3 v4 v5 v6 (0) v8 v9 v10 v11 v12 (0) v14 v15 v16 (0) v18 v19 v20)))) 3003 (some (.box scObj))⟩) = some (rowI 0 0 [v15, v11], [some (.box scObj), some (.box (scP (0) v15 v11 v3 v11 v5 v6 (0) v8 v9 v10 (wrap64R (addI v11 (1))) (wrap64R (addI v11 (1))) (0) v15 v15 v15 (0) v19 v11 v11)), some (.box scMem)]) := by kernel_rfl
theorem sc_step_010 (v0 v1 v2 v3 v4 v5 v6 v8 v9 v10 v11 v12 v14 v15 v16 v18 v19 v20 : Int) : seeR [3003, 2995, 2951] (callX E1 2000 27 [.ptr 3003 0, rowI 1 0 [(0)]] ⟨3017, T.set (T.set (T.set .leaf 2951 (some (.box scMem))) 2995 (some (.box (scP v0 v1 v2 v3 v4 v5 v6 (1) v8 v9 v10 v11 v12 (0) v14 v15 v16 (0) v18 v19 v20)))) 3003 (some (.box scObj))⟩) = some (rowI 0 0 [v15, v11], [some (.box scObj), some (.box (scP (0) v15 v11 v3 v11 v5 v6 (1) v8 v9 v10 (wrap64R (addI v11 (1))) (wrap64R (addI v11 (1))) (0) v15 v15 v15 (0) v19 v11 v11)), some (.box scMem)]) := by kernel_rfl
theorem sc_step_111 (v0 v1 v2 v3 v4 v5 v6 v8 v9 v10 v11 v12 v14 v15 v16 v18 v19 v20 : Int) : seeR [3003, 2995, 2951] (callX E1 2000 27 [.ptr 3003 0, rowI 1 0 [(1)]] ⟨3017, T.set (T.set (T.set .leaf 2951 (some (.box scMem))) 2995 (some (.box (scP v0 v1 v2 v3 v4 v5 v6 (1) v8 v9 v10 v11 v12 (1) v14 v15 v16 (1) v18 v19 v20)))) 3003 (some (.box scObj))⟩) = some (rowI 0 0 [(1), (0)], [some (.box scObj), some (.box (scP (1) (1) (0) (1) v4 (1) (1) (0) (1) (wrap64R (addI v10 (1))) (1) v11 v12 (0) (0) (1) (1) (0) (0) (0) (0))), some (.box scMem)]) := by kernel_rfl
theorem sc_step_100 (v0 v1 v2 v3 v4 v5 v6 v8 v9 v10 v11 v12 v14 v15 v16 v18 v19 v20 : Int) : seeR [3003, 2995, 2951] (callX E1 2000 27 [.ptr 3003 0, rowI 1 0 [(1)]] ⟨3017, T.set (T.set (T.set .leaf 2951 (some (.box scMem))) 2995 (some (.box (scP v0 v1 v2 v3 v4 v5 v6 (0) v8 v9 v10 v11 v12 (0) v14 v15 v16 (0) v18 v19 v20)))) 3003 (some (.box scObj))⟩) = some (rowI 0 0 [(wrap64R (addI v10 (1))), v19], [some (.box scObj), some (.box (scP (1) (wrap64R (addI v10 (1))) v19 (wrap64R (addI v10 (1))) v4 (1) (wrap64R (addI v10 (1))) (0) (wrap64R (addI v10 (1))) (wrap64R (addI v10 (1))) (wrap64R (addI v10 (1))) v11 v12 (0) v15 (wrap64R (addI v10 (1))) (wrap64R (addI v10 (1))) (0) v19 v19 v19)), some (.box scMem)]) := by kernel_rfl
theorem sc_step_110 (v0 v1 v2 v3 v4 v5 v6 v8 v9 v10 v11 v12 v14 v15 v16 v18 v19 v20 : Int) : seeR [3003, 2995, 2951] (callX E1 2000 27 [.ptr 3003 0, rowI 1 0 [(1)]] ⟨3017, T.set (T.set (T.set .leaf 2951 (some (.box scMem))) 2995 (some (.box (scP v0 v1 v2 v3 v4 v5 v6 (1) v8 v9 v10 v11 v12 (0) v14 v15 v16 (0) v18 v19 v20)))) 3003 (some (.box scObj))⟩) = some (rowI 0 0 [(1), v19], [some (.box scObj), some (.box (scP (1) (1) v19 (1) v4 (1) (1) (0) (1) (wrap64R (addI v10 (1))) (1) v11 v12 (0) v15 (1) (1) (0) v19 v19 v19)), some (.box scMem)]) := by kernel_rfl
end Go.Ax
noncomputable section
namespace Go.Ax
open Go.RowKit Go.Proofs
set_option linter.unusedVariables false
set_option linter.unusedSimpArgs false
set_option maxRecDepth 100000
theorem wadd {n : Nat} (h : n ≤ 1000000) : wrap64R (addI (n : Int) 1) = ((n + 1 : Nat) : Int) := by
  rw [wrap64R_eq, addI_eq]; exact wrap_one (by omega)
/-- How a unit stands: so many instants, at so many of which the truth was true. -/
structure ScI (S : St) (cy nn : Nat) : Prop where
  next : 3017 ≤ S.next
  obj : S.mem.get 3003 = some (.box scObj)
  mem : S.mem.get 2951 = some (.box scMem)
  pl : ∃ v0 v1 v2 v3 v4 v5 v6 v7 v8 v9 v10 v11 v12 v13 v14 v15 v16 v17 v18 v19 v20 : Int, S.mem.get 2995 = some (.box (scP v0 v1 v2 v3 v4 v5 v6 v7 v8 v9 v10 v11 v12 v13 v14 v15 v16 v17 v18 v19 v20)) ∧ v7 = (if cy = 0 then 1 else 0) ∧ v10 = (cy : Int) ∧ v11 = (nn : Int) ∧ v13 = (if cy + nn = 0 then 1 else 0) ∧ v15 = (cy : Int) ∧ v17 = (if cy + nn = 0 then 1 else 0) ∧ v19 = ((nn - 1 : Nat) : Int)
theorem ScI.of {S : St} {cy nn : Nat} {v0 v1 v2 v3 v4 v5 v6 v7 v8 v9 v10 v11 v12 v13 v14 v15 v16 v17 v18 v19 v20 : Int} (hf : 3017 ≤ S.next ∧ S.mem.get 3003 = some (.box scObj) ∧ S.mem.get 2995 = some (.box (scP v0 v1 v2 v3 v4 v5 v6 v7 v8 v9 v10 v11 v12 v13 v14 v15 v16 v17 v18 v19 v20)) ∧ S.mem.get 2951 = some (.box scMem))
    (e : v7 = (if cy = 0 then 1 else 0) ∧ v10 = (cy : Int) ∧ v11 = (nn : Int) ∧ v13 = (if cy + nn = 0 then 1 else 0) ∧ v15 = (cy : Int) ∧ v17 = (if cy + nn = 0 then 1 else 0) ∧ v19 = ((nn - 1 : Nat) : Int)) : ScI S cy nn :=
  ⟨hf.1, hf.2.1, hf.2.2.2, _, _, _, _, _, _, _, _, _, _, _, _, _, _, _, _, _, _, _, _, _, hf.2.2.1, e⟩
theorem okObj : okC 3017 (some (.box scObj)) = true := by kernel_rfl
theorem okMem : okC 3017 (some (.box scMem)) = true := by kernel_rfl
theorem okPl (v0 v1 v2 v3 v4 v5 v6 v7 v8 v9 v10 v11 v12 v13 v14 v15 v16 v17 v18 v19 v20 : Int) : okC 3017 (some (.box (scP v0 v1 v2 v3 v4 v5 v6 v7 v8 v9 v10 v11 v12 v13 v14 v15 v16 v17 v18 v19 v20))) = true := by kernel_rfl
theorem okArgs (x : Int) : ltL 3017 [.ptr 3003 0, rowI 1 0 [x]] = true := by kernel_rfl
theorem sc_in {S : St} {cs : List AV} (x : Int) (hn : 3017 ≤ S.next) (h1 : S.mem.get 3003 = some (.box scObj)) (h3 : S.mem.get 2951 = some (.box scMem)) (h2 : S.mem.get 2995 = some (.box cs)) (hk : okC 3017 (some (.box cs)) = true) :
    smallIn 3017 [3003, 2995, 2951] [.ptr 3003 0, rowI 1 0 [x]] S = true ∧ subM S [3003, 2995, 2951] = T.set (T.set (T.set .leaf 2951 (some (.box scMem))) 2995 (some (.box cs))) 3003 (some (.box scObj)) := by
  refine ⟨?_, by simp only [subM, h1, h2, h3]⟩
  unfold smallIn
  simp only [List.all_cons, List.all_nil, h1, h2, h3, okObj, okMem, hk, okArgs, Bool.and_true, Nat.ble_eq_true_of_le hn]
  rfl
theorem sc_fin {S S' : St} {a b c : Cell} (hn : 3017 ≤ S.next) (h2 : S'.next = S.next) (h4 : [3003, 2995, 2951].map S'.mem.get = [some a, some b, some c]) : 3017 ≤ S'.next ∧ S'.mem.get 3003 = some a ∧ S'.mem.get 2995 = some b ∧ S'.mem.get 2951 = some c := by
  simp only [List.map_cons, List.map_nil, List.cons.injEq, and_true] at h4
  exact ⟨by omega, h4.1, h4.2.1, h4.2.2⟩
def scIn (b : Bool) : Int := if b then 1 else 0
theorem sc_round (S : St) (cy nn : Nat) (h : ScI S cy nn) (hc : cy + nn ≤ 1000) (b : Bool) (cy' nn' : Nat) (hcy : cy' = if b then cy + 1 else cy) (hnn : nn' = if b then nn else nn + 1) :
    ∃ S', viaSmall E1 2000 27 3017 [3003, 2995, 2951] [.ptr 3003 0, rowI 1 0 [scIn b]] S = .ret (rowI 0 0 [(cy' : Int), ((nn' - 1 : Nat) : Int)]) S' ∧ ScI S' cy' nn' := by
  obtain ⟨hn, ho, hm, v0, v1, v2, v3, v4, v5, v6, v7, v8, v9, v10, v11, v12, v13, v14, v15, v16, v17, v18, v19, v20, hp, e7, e10, e11, e13, e15, e17, e19⟩ := h
  have hw1 := wadd (n := cy) (by omega)
  have hw2 := wadd (n := nn) (by omega)
  subst e10; subst e11; subst e15; subst e19
  cases b with
  | true =>
    simp only [if_true] at hcy hnn
    rw [hcy, hnn]
    by_cases hz : cy + nn = 0
    · obtain ⟨rfl, rfl⟩ : cy = 0 ∧ nn = 0 := by omega
      rw [if_pos rfl] at e7 e13 e17
      subst e7; subst e13; subst e17
      obtain ⟨q1, q2⟩ := sc_in (scIn true) hn ho hm hp (okPl ..)
      obtain ⟨S', r1, r2, r3, r4⟩ := via_eq (k := 27) q1 (by rw [q2]; exact sc_step_111 ..) (by simp only [List.all_cons, List.all_nil, okObj, okMem, okPl, Bool.and_true])
      have hf := sc_fin hn r2 r4
      refine ⟨S', r1.trans ?_, ScI.of hf ?_⟩
      · rfl
      · exact ⟨(by first | rfl | (simp; done) | (simp; omega) | (rw [if_neg (by omega)])), (by first | rfl | (simp [hw1]; done) | (simp [hw1]; omega) | (rw [if_neg (by omega)])), (by first | rfl | (simp [hw2]; done) | (simp [hw2]; omega) | (rw [if_neg (by omega)])), (by first | rfl | (simp; done) | (simp; omega) | (rw [if_neg (by omega)])), (by first | rfl | (simp [hw1]; done) | (simp [hw1]; omega) | (rw [if_neg (by omega)])), (by first | rfl | (simp; done) | (simp; omega) | (rw [if_neg (by omega)])), (by first | rfl | (simp; done) | (simp; omega) | (rw [if_neg (by omega)]))⟩
    · by_cases hy : cy = 0
      · subst hy
        rw [if_pos rfl] at e7
        rw [if_neg hz] at e13 e17
        subst e7; subst e13; subst e17
        obtain ⟨q1, q2⟩ := sc_in (scIn true) hn ho hm hp (okPl ..)
        obtain ⟨S', r1, r2, r3, r4⟩ := via_eq (k := 27) q1 (by rw [q2]; exact sc_step_110 ..) (by simp only [List.all_cons, List.all_nil, okObj, okMem, okPl, Bool.and_true])
        have hf := sc_fin hn r2 r4
        refine ⟨S', r1.trans ?_, ScI.of hf ?_⟩
        · rfl
        · exact ⟨(by first | rfl | (simp; done) | (simp; omega) | (rw [if_neg (by omega)])), (by first | rfl | (simp [hw1]; done) | (simp [hw1]; omega) | (rw [if_neg (by omega)])), (by first | rfl | (simp [hw2]; done) | (simp [hw2]; omega) | (rw [if_neg (by omega)])), (by first | rfl | (simp; done) | (simp; omega) | (rw [if_neg (by omega)])), (by first | rfl | (simp [hw1]; done) | (simp [hw1]; omega) | (rw [if_neg (by omega)])), (by first | rfl | (simp; done) | (simp; omega) | (rw [if_neg (by omega)])), (by first | rfl | (simp; done) | (simp; omega) | (rw [if_neg (by omega)]))⟩
      · skip
        rw [if_neg hy] at e7
        rw [if_neg hz] at e13 e17
        subst e7; subst e13; subst e17
        obtain ⟨q1, q2⟩ := sc_in (scIn true) hn ho hm hp (okPl ..)
        obtain ⟨S', r1, r2, r3, r4⟩ := via_eq (k := 27) q1 (by rw [q2]; exact sc_step_100 ..) (by simp only [List.all_cons, List.all_nil, okObj, okMem, okPl, Bool.and_true])
        have hf := sc_fin hn r2 r4
        refine ⟨S', r1.trans ?_, ScI.of hf ?_⟩
        · rw [hw1]
        · exact ⟨(by first | rfl | (simp [hy]; done) | (simp [hy]; omega) | (rw [if_neg (by omega)])), (by first | rfl | (simp [hw1]; done) | (simp [hw1]; omega) | (rw [if_neg (by omega)])), (by first | rfl | (simp [hw2]; done) | (simp [hw2]; omega) | (rw [if_neg (by omega)])), (by first | rfl | (simp [hy]; done) | (simp [hy]; omega) | (rw [if_neg (by omega)])), (by first | rfl | (simp [hw1]; done) | (simp [hw1]; omega) | (rw [if_neg (by omega)])), (by first | rfl | (simp [hy]; done) | (simp [hy]; omega) | (rw [if_neg (by omega)])), (by first | rfl | (simp; done) | (simp; omega) | (rw [if_neg (by omega)]))⟩
  | false =>
    simp only [Bool.false_eq_true, if_false] at hcy hnn
    rw [hcy, hnn]
    by_cases hz : cy + nn = 0
    · obtain ⟨rfl, rfl⟩ : cy = 0 ∧ nn = 0 := by omega
      rw [if_pos rfl] at e7 e13 e17
      subst e7; subst e13; subst e17
      obtain ⟨q1, q2⟩ := sc_in (scIn false) hn ho hm hp (okPl ..)
      obtain ⟨S', r1, r2, r3, r4⟩ := via_eq (k := 27) q1 (by rw [q2]; exact sc_step_011 ..) (by simp only [List.all_cons, List.all_nil, okObj, okMem, okPl, Bool.and_true])
      have hf := sc_fin hn r2 r4
      refine ⟨S', r1.trans ?_, ScI.of hf ?_⟩
      · rfl
      · exact ⟨(by first | rfl | (simp; done) | (simp; omega) | (rw [if_neg (by omega)])), (by first | rfl | (simp [hw1]; done) | (simp [hw1]; omega) | (rw [if_neg (by omega)])), (by first | rfl | (simp [hw2]; done) | (simp [hw2]; omega) | (rw [if_neg (by omega)])), (by first | rfl | (simp; done) | (simp; omega) | (rw [if_neg (by omega)])), (by first | rfl | (simp [hw1]; done) | (simp [hw1]; omega) | (rw [if_neg (by omega)])), (by first | rfl | (simp; done) | (simp; omega) | (rw [if_neg (by omega)])), (by first | rfl | (simp; done) | (simp; omega) | (rw [if_neg (by omega)]))⟩
    · by_cases hy : cy = 0
      · subst hy
        rw [if_pos rfl] at e7
        rw [if_neg hz] at e13 e17
        subst e7; subst e13; subst e17
        obtain ⟨q1, q2⟩ := sc_in (scIn false) hn ho hm hp (okPl ..)
        obtain ⟨S', r1, r2, r3, r4⟩ := via_eq (k := 27) q1 (by rw [q2]; exact sc_step_010 ..) (by simp only [List.all_cons, List.all_nil, okObj, okMem, okPl, Bool.and_true])
        have hf := sc_fin hn r2 r4
        refine ⟨S', r1.trans ?_, ScI.of hf ?_⟩
        · rfl
        · exact ⟨(by first | rfl | (simp; done) | (simp; omega) | (rw [if_neg (by omega)])), (by first | rfl | (simp [hw1]; done) | (simp [hw1]; omega) | (rw [if_neg (by omega)])), (by first | rfl | (simp [hw2]; done) | (simp [hw2]; omega) | (rw [if_neg (by omega)])), (by first | rfl | (simp; done) | (simp; omega) | (rw [if_neg (by omega)])), (by first | rfl | (simp [hw1]; done) | (simp [hw1]; omega) | (rw [if_neg (by omega)])), (by first | rfl | (simp; done) | (simp; omega) | (rw [if_neg (by omega)])), (by first | rfl | (simp; done) | (simp; omega) | (rw [if_neg (by omega)]))⟩
      · skip
        rw [if_neg hy] at e7
        rw [if_neg hz] at e13 e17
        subst e7; subst e13; subst e17
        obtain ⟨q1, q2⟩ := sc_in (scIn false) hn ho hm hp (okPl ..)
        obtain ⟨S', r1, r2, r3, r4⟩ := via_eq (k := 27) q1 (by rw [q2]; exact sc_step_000 ..) (by simp only [List.all_cons, List.all_nil, okObj, okMem, okPl, Bool.and_true])
        have hf := sc_fin hn r2 r4
        refine ⟨S', r1.trans ?_, ScI.of hf ?_⟩
        · rfl
        · exact ⟨(by first | rfl | (simp [hy]; done) | (simp [hy]; omega) | (rw [if_neg (by omega)])), (by first | rfl | (simp [hw1]; done) | (simp [hw1]; omega) | (rw [if_neg (by omega)])), (by first | rfl | (simp [hw2]; done) | (simp [hw2]; omega) | (rw [if_neg (by omega)])), (by first | rfl | (simp [hy]; done) | (simp [hy]; omega) | (rw [if_neg (by omega)])), (by first | rfl | (simp [hw1]; done) | (simp [hw1]; omega) | (rw [if_neg (by omega)])), (by first | rfl | (simp [hy]; done) | (simp [hy]; omega) | (rw [if_neg (by omega)])), (by first | rfl | (simp; done) | (simp; omega) | (rw [if_neg (by omega)]))⟩
end Go.Ax
noncomputable section
namespace Go.Ax
open Go.RowKit Go.Proofs
set_option linter.unusedVariables false
set_option linter.unusedSimpArgs false
set_option maxRecDepth 100000
def scBody : Code := match scRest with
  | .seq _ (.seq _ (.seq (.seq _ (.block _ (.loop c))) _)) => c
  | _ => .skip
theorem scBody_is : (match scBody with | .skip => false | _ => true) = true := by kernel_rfl
def cntT (l : List Bool) : Nat := l.countP (· == true)
def cntF (l : List Bool) : Nat := l.countP (· == false)
theorem cnt_sum (l : List Bool) : cntT l + cntF l = l.length := by
  unfold cntT cntF
  induction l with
  | nil => rfl
  | cons b r ih => cases b <;> simp <;> simp at ih <;> omega
theorem cntT_take (l : List Bool) (i : Nat) (h : i < l.length) : cntT (l.take (i + 1)) = if l[i] then cntT (l.take i) + 1 else cntT (l.take i) := by
  unfold cntT
  rw [List.take_succ_eq_append_getElem h, List.countP_append]
  cases l[i] <;> simp
theorem cntF_take (l : List Bool) (i : Nat) (h : i < l.length) : cntF (l.take (i + 1)) = if l[i] then cntF (l.take i) else cntF (l.take i) + 1 := by
  unfold cntF
  rw [List.take_succ_eq_append_getElem h, List.countP_append]
  cases l[i] <;> simp
theorem wrap_less {n : Nat} (h : n ≤ 1000000) : IntKind.i64.wrap ((n : Int) - 1 + 1) = ((n + 1 : Nat) : Int) - 1 := by
  have e : ((n : Int) - 1 + 1) = (n : Int) := by omega
  rw [e, wrap_nat (by omega)]; push_cast; omega
theorem max_less (n : Nat) : (if (0 : Int) > (n : Int) - 1 then (0 : Int) else (n : Int) - 1) = ((n - 1 : Nat) : Int) := by
  split <;> omega
theorem sc_loop (na : AV) (bs : List Bool) (hna : isRowB na bs) : ∀ (m i : Nat) (t : T AV) (S : St), i + m = min bs.length 40 → ScI S (cntT (bs.take i)) (cntF (bs.take i)) → t.get 0 = some na → t.get 5 = some (.ptr 3003 0) → t.get 7 = some (.v (.int .i64 ((cntT (bs.take i) : Nat) : Int))) → t.get 8 = some (.v (.int .i64 (((cntF (bs.take i) : Nat) : Int) - 1))) → t.get 9 = some (.v (.int .i64 (i : Int))) →
    WX (E2 3017 [3003, 2995, 2951]) 52 (.loop scBody) ⟨t, []⟩ S (fun r => ∃ t' S', r = .out (.exit 0) ⟨t', []⟩ S')
  | 0, i, t, S, hi, hS, h0, h5, h7, h8, h9 => by
    refine WX_loop (W_sound ?_)
    have hlen := fun S => len36 S hna
    by_cases hlt : (i : Int) < (bs.length : Int)
    · have h40 : ¬ ((i : Int) < 40) := by omega
      simp only [thenW_normal, thenW_exit, thenW_ret, thenW_pan, W_skip, W_region, W_drawn, W_seq, W_cond, W_block, W_loop, W_exit, W_ret, seqQ_normal2, seqQ_exit2, seqQ_ret2, seqQ_pan2, blockW_normal2, blockW_ret2, blockW_pan2, blockW_exit2, WL_nil2, WL_cons, execL_no, execL_val2, execL_skip2, execL_enter2, execL_pan2, putL_none2, putL_some2, retL_ret2, retL_pan2, condW_t2, condW_f2, wantedA, exec1, evalO, initT, T.get_set, T.get_leaf, callA, mapO, ofOpt, ofOptS, ofConst, e2_P, e2_G, partsA, neNil3, finW_ret, finW_pan, giveW, resultsA, tupA, ground_not, notO_bool, fb_lss, fb_leq, fb_gtr, fb_geq, fb_add, fb_eqlI, fb_neqI, Nat.reduceLT, Nat.reduceAdd, Nat.reduceEqDiff, if_true, if_false, reduceIte, true_and, and_true, Option.getD_some, List.getElem?_toArray, List.getElem?_cons_succ, List.getElem?_cons_zero, Option.bind_some, List.nil_append, List.append_nil, beq_self_eq_true, Bool.false_eq_true, Bool.true_eq_false, decide_true, decide_false, Bool.not_true, Bool.not_false, Bool.false_beq, Bool.true_beq, Option.toList, List.head?_cons, List.head?_nil, WR_nil2, WR_op, WR_re2, execR_no, execR_val2, execR_skip2, execR_enter2, execR_pan2, putRW_none2, putRW_some2, retRW_ret2, retRW_pan2, fixQ_normal2, fixQ_pan2, rsOf, scBody, scRest, Tryz.f8, hlen, h0, h9, hlt, h40]
      exact ⟨_, _, rfl⟩
    · simp only [thenW_normal, thenW_exit, thenW_ret, thenW_pan, W_skip, W_region, W_drawn, W_seq, W_cond, W_block, W_loop, W_exit, W_ret, seqQ_normal2, seqQ_exit2, seqQ_ret2, seqQ_pan2, blockW_normal2, blockW_ret2, blockW_pan2, blockW_exit2, WL_nil2, WL_cons, execL_no, execL_val2, execL_skip2, execL_enter2, execL_pan2, putL_none2, putL_some2, retL_ret2, retL_pan2, condW_t2, condW_f2, wantedA, exec1, evalO, initT, T.get_set, T.get_leaf, callA, mapO, ofOpt, ofOptS, ofConst, e2_P, e2_G, partsA, neNil3, finW_ret, finW_pan, giveW, resultsA, tupA, ground_not, notO_bool, fb_lss, fb_leq, fb_gtr, fb_geq, fb_add, fb_eqlI, fb_neqI, Nat.reduceLT, Nat.reduceAdd, Nat.reduceEqDiff, if_true, if_false, reduceIte, true_and, and_true, Option.getD_some, List.getElem?_toArray, List.getElem?_cons_succ, List.getElem?_cons_zero, Option.bind_some, List.nil_append, List.append_nil, beq_self_eq_true, Bool.false_eq_true, Bool.true_eq_false, decide_true, decide_false, Bool.not_true, Bool.not_false, Bool.false_beq, Bool.true_beq, Option.toList, List.head?_cons, List.head?_nil, WR_nil2, WR_op, WR_re2, execR_no, execR_val2, execR_skip2, execR_enter2, execR_pan2, putRW_none2, putRW_some2, retRW_ret2, retRW_pan2, fixQ_normal2, fixQ_pan2, rsOf, scBody, scRest, Tryz.f8, hlen, h0, h9, hlt]
      exact ⟨_, _, rfl⟩
  | m + 1, i, t, S, hi, hS, h0, h5, h7, h8, h9 => by
    refine WX_loop (W_sound ?_)
    have hlen := fun S => len36 S hna
    have hil : i < bs.length := by omega
    have hlt : (i : Int) < (bs.length : Int) := by omega
    have h40 : ((i : Int) < 40) := by omega
    have hx := idx36 hna i hil
    have hsum := cnt_sum (bs.take i)
    have hlt2 : (bs.take i).length ≤ 40 := by rw [List.length_take]; omega
    have hT := cntT_take bs i hil
    have hF := cntF_take bs i hil
    obtain ⟨fn11, hf11⟩ := f11_some
    obtain ⟨fn10, hf10⟩ := f10_some
    have hw := wrap_one (i := i) (by omega)
    obtain ⟨S', hr, hS'⟩ := sc_round S _ _ hS (by omega) bs[i] _ _ hT hF
    have hne0 : ((0 : Int) != 0) = false := rfl
    have hmx := max_less (cntF (bs.take (i + 1)))
    simp only [thenW_normal, thenW_exit, thenW_ret, thenW_pan, W_skip, W_region, W_drawn, W_seq, W_cond, W_block, W_loop, W_exit, W_ret, seqQ_normal2, seqQ_exit2, seqQ_ret2, seqQ_pan2, blockW_normal2, blockW_ret2, blockW_pan2, blockW_exit2, WL_nil2, WL_cons, execL_no, execL_val2, execL_skip2, execL_enter2, execL_pan2, putL_none2, putL_some2, retL_ret2, retL_pan2, condW_t2, condW_f2, wantedA, exec1, evalO, initT, T.get_set, T.get_leaf, callA, mapO, ofOpt, ofOptS, ofConst, e2_P, e2_G, partsA, neNil3, finW_ret, finW_pan, giveW, resultsA, tupA, ground_not, notO_bool, fb_lss, fb_leq, fb_gtr, fb_geq, fb_add, fb_eqlI, fb_neqI, Nat.reduceLT, Nat.reduceAdd, Nat.reduceEqDiff, if_true, if_false, reduceIte, true_and, and_true, Option.getD_some, List.getElem?_toArray, List.getElem?_cons_succ, List.getElem?_cons_zero, Option.bind_some, List.nil_append, List.append_nil, beq_self_eq_true, Bool.false_eq_true, Bool.true_eq_false, decide_true, decide_false, Bool.not_true, Bool.not_false, Bool.false_beq, Bool.true_beq, Option.toList, List.head?_cons, List.head?_nil, WR_nil2, WR_op, WR_re2, execR_no, execR_val2, execR_skip2, execR_enter2, execR_pan2, putRW_none2, putRW_some2, retRW_ret2, retRW_pan2, fixQ_normal2, fixQ_pan2, rsOf, scBody, scRest, Tryz.f8, hlen, h0, h5, h7, h8, h9, hlt, h40, hx, ld4]
    cases hb : bs[i] with
    | true =>
      rw [hb] at hT hF hr
      have hw1 := wrap_one (i := cntT (bs.take i)) (by omega)
      have hT : cntT (bs.take (i + 1)) = cntT (bs.take i) + 1 := hT
      have hF : cntF (bs.take (i + 1)) = cntF (bs.take i) := hF
      rw [hF] at hmx
      rw [hT, hF] at hr
      simp only [thenW_normal, thenW_exit, thenW_ret, thenW_pan, W_skip, W_region, W_drawn, W_seq, W_cond, W_block, W_loop, W_exit, W_ret, seqQ_normal2, seqQ_exit2, seqQ_ret2, seqQ_pan2, blockW_normal2, blockW_ret2, blockW_pan2, blockW_exit2, WL_nil2, WL_cons, execL_no, execL_val2, execL_skip2, execL_enter2, execL_pan2, putL_none2, putL_some2, retL_ret2, retL_pan2, condW_t2, condW_f2, wantedA, exec1, evalO, initT, T.get_set, T.get_leaf, callA, mapO, ofOpt, ofOptS, ofConst, e2_P, e2_G, partsA, neNil3, finW_ret, finW_pan, giveW, resultsA, tupA, ground_not, notO_bool, fb_lss, fb_leq, fb_gtr, fb_geq, fb_add, fb_eqlI, fb_neqI, Nat.reduceLT, Nat.reduceAdd, Nat.reduceEqDiff, if_true, if_false, reduceIte, true_and, and_true, Option.getD_some, List.getElem?_toArray, List.getElem?_cons_succ, List.getElem?_cons_zero, Option.bind_some, List.nil_append, List.append_nil, beq_self_eq_true, Bool.false_eq_true, Bool.true_eq_false, decide_true, decide_false, Bool.not_true, Bool.not_false, Bool.false_beq, Bool.true_beq, Option.toList, List.head?_cons, List.head?_nil, WR_nil2, WR_op, WR_re2, execR_no, execR_val2, execR_skip2, execR_enter2, execR_pan2, putRW_none2, putRW_some2, retRW_ret2, retRW_pan2, fixQ_normal2, fixQ_pan2, rsOf, hb, e2_F, hf10, hf11, neNil2, row1, row2, ground_max, maxO_i, hw1, hw, hmx, hne0, h0, h5, h7, h8, h9]
      refine WC_known (e2_i11 ..) ?_
      rw [show viaSmall E1 2000 27 3017 [3003, 2995, 2951] [.ptr 3003 0, rowI 1 0 [1]] S = _ from hr]
      simp only [thenW_normal, thenW_exit, thenW_ret, thenW_pan, W_skip, W_region, W_drawn, W_seq, W_cond, W_block, W_loop, W_exit, W_ret, seqQ_normal2, seqQ_exit2, seqQ_ret2, seqQ_pan2, blockW_normal2, blockW_ret2, blockW_pan2, blockW_exit2, WL_nil2, WL_cons, execL_no, execL_val2, execL_skip2, execL_enter2, execL_pan2, putL_none2, putL_some2, retL_ret2, retL_pan2, condW_t2, condW_f2, wantedA, exec1, evalO, initT, T.get_set, T.get_leaf, callA, mapO, ofOpt, ofOptS, ofConst, e2_P, e2_G, partsA, neNil3, finW_ret, finW_pan, giveW, resultsA, tupA, ground_not, notO_bool, fb_lss, fb_leq, fb_gtr, fb_geq, fb_add, fb_eqlI, fb_neqI, Nat.reduceLT, Nat.reduceAdd, Nat.reduceEqDiff, if_true, if_false, reduceIte, true_and, and_true, Option.getD_some, List.getElem?_toArray, List.getElem?_cons_succ, List.getElem?_cons_zero, Option.bind_some, List.nil_append, List.append_nil, beq_self_eq_true, Bool.false_eq_true, Bool.true_eq_false, decide_true, decide_false, Bool.not_true, Bool.not_false, Bool.false_beq, Bool.true_beq, Option.toList, List.head?_cons, List.head?_nil, WR_nil2, WR_op, WR_re2, execR_no, execR_val2, execR_skip2, execR_enter2, execR_pan2, putRW_none2, putRW_some2, retRW_ret2, retRW_pan2, fixQ_normal2, fixQ_pan2, rsOf, hb, e2_F, hf10, hf11, neNil2, row1, row2, ground_max, maxO_i, hw1, hw, hmx, hne0, h0, h5, h7, h8, h9]
      refine WC.mono (same_w 0 0 1 0 [((cntT (bs.take i) + 1 : Nat) : Int), ((cntF (bs.take i) - 1 : Nat) : Int)] (by simp) S') ?_
      rintro _ rfl
      simp only [thenW_normal, thenW_exit, thenW_ret, thenW_pan, W_skip, W_region, W_drawn, W_seq, W_cond, W_block, W_loop, W_exit, W_ret, seqQ_normal2, seqQ_exit2, seqQ_ret2, seqQ_pan2, blockW_normal2, blockW_ret2, blockW_pan2, blockW_exit2, WL_nil2, WL_cons, execL_no, execL_val2, execL_skip2, execL_enter2, execL_pan2, putL_none2, putL_some2, retL_ret2, retL_pan2, condW_t2, condW_f2, wantedA, exec1, evalO, initT, T.get_set, T.get_leaf, callA, mapO, ofOpt, ofOptS, ofConst, e2_P, e2_G, partsA, neNil3, finW_ret, finW_pan, giveW, resultsA, tupA, ground_not, notO_bool, fb_lss, fb_leq, fb_gtr, fb_geq, fb_add, fb_eqlI, fb_neqI, Nat.reduceLT, Nat.reduceAdd, Nat.reduceEqDiff, if_true, if_false, reduceIte, true_and, and_true, Option.getD_some, List.getElem?_toArray, List.getElem?_cons_succ, List.getElem?_cons_zero, Option.bind_some, List.nil_append, List.append_nil, beq_self_eq_true, Bool.false_eq_true, Bool.true_eq_false, decide_true, decide_false, Bool.not_true, Bool.not_false, Bool.false_beq, Bool.true_beq, Option.toList, List.head?_cons, List.head?_nil, WR_nil2, WR_op, WR_re2, execR_no, execR_val2, execR_skip2, execR_enter2, execR_pan2, putRW_none2, putRW_some2, retRW_ret2, retRW_pan2, fixQ_normal2, fixQ_pan2, rsOf, hb, e2_F, hf10, hf11, neNil2, row1, row2, ground_max, maxO_i, hw1, hw, hmx, hne0, h0, h5, h7, h8, h9]
      refine WX.mono (sc_loop na bs hna m (i + 1) _ S' (by omega) hS' ?_ ?_ ?_ ?_ ?_) (fun r h => h)
      · simp only [T.get_set, Nat.reduceEqDiff, if_false, h0]
      · simp only [T.get_set, Nat.reduceEqDiff, if_false, h5]
      · simp only [T.get_set, Nat.reduceEqDiff, if_false, if_true, hT]
      · simp only [T.get_set, Nat.reduceEqDiff, if_false, if_true, h8, hF]
      · simp only [T.get_set, Nat.reduceEqDiff, if_true]
    | false =>
      rw [hb] at hT hF hr
      have hw1 := wrap_less (n := cntF (bs.take i)) (by omega)
      have hT : cntT (bs.take (i + 1)) = cntT (bs.take i) := hT
      have hF : cntF (bs.take (i + 1)) = cntF (bs.take i) + 1 := hF
      rw [hF] at hmx
      rw [hT, hF] at hr
      simp only [thenW_normal, thenW_exit, thenW_ret, thenW_pan, W_skip, W_region, W_drawn, W_seq, W_cond, W_block, W_loop, W_exit, W_ret, seqQ_normal2, seqQ_exit2, seqQ_ret2, seqQ_pan2, blockW_normal2, blockW_ret2, blockW_pan2, blockW_exit2, WL_nil2, WL_cons, execL_no, execL_val2, execL_skip2, execL_enter2, execL_pan2, putL_none2, putL_some2, retL_ret2, retL_pan2, condW_t2, condW_f2, wantedA, exec1, evalO, initT, T.get_set, T.get_leaf, callA, mapO, ofOpt, ofOptS, ofConst, e2_P, e2_G, partsA, neNil3, finW_ret, finW_pan, giveW, resultsA, tupA, ground_not, notO_bool, fb_lss, fb_leq, fb_gtr, fb_geq, fb_add, fb_eqlI, fb_neqI, Nat.reduceLT, Nat.reduceAdd, Nat.reduceEqDiff, if_true, if_false, reduceIte, true_and, and_true, Option.getD_some, List.getElem?_toArray, List.getElem?_cons_succ, List.getElem?_cons_zero, Option.bind_some, List.nil_append, List.append_nil, beq_self_eq_true, Bool.false_eq_true, Bool.true_eq_false, decide_true, decide_false, Bool.not_true, Bool.not_false, Bool.false_beq, Bool.true_beq, Option.toList, List.head?_cons, List.head?_nil, WR_nil2, WR_op, WR_re2, execR_no, execR_val2, execR_skip2, execR_enter2, execR_pan2, putRW_none2, putRW_some2, retRW_ret2, retRW_pan2, fixQ_normal2, fixQ_pan2, rsOf, hb, e2_F, hf10, hf11, neNil2, row1, row2, ground_max, maxO_i, hw1, hw, hmx, hne0, h0, h5, h7, h8, h9]
      refine WC_known (e2_i11 ..) ?_
      rw [show viaSmall E1 2000 27 3017 [3003, 2995, 2951] [.ptr 3003 0, rowI 1 0 [0]] S = _ from hr]
      simp only [thenW_normal, thenW_exit, thenW_ret, thenW_pan, W_skip, W_region, W_drawn, W_seq, W_cond, W_block, W_loop, W_exit, W_ret, seqQ_normal2, seqQ_exit2, seqQ_ret2, seqQ_pan2, blockW_normal2, blockW_ret2, blockW_pan2, blockW_exit2, WL_nil2, WL_cons, execL_no, execL_val2, execL_skip2, execL_enter2, execL_pan2, putL_none2, putL_some2, retL_ret2, retL_pan2, condW_t2, condW_f2, wantedA, exec1, evalO, initT, T.get_set, T.get_leaf, callA, mapO, ofOpt, ofOptS, ofConst, e2_P, e2_G, partsA, neNil3, finW_ret, finW_pan, giveW, resultsA, tupA, ground_not, notO_bool, fb_lss, fb_leq, fb_gtr, fb_geq, fb_add, fb_eqlI, fb_neqI, Nat.reduceLT, Nat.reduceAdd, Nat.reduceEqDiff, if_true, if_false, reduceIte, true_and, and_true, Option.getD_some, List.getElem?_toArray, List.getElem?_cons_succ, List.getElem?_cons_zero, Option.bind_some, List.nil_append, List.append_nil, beq_self_eq_true, Bool.false_eq_true, Bool.true_eq_false, decide_true, decide_false, Bool.not_true, Bool.not_false, Bool.false_beq, Bool.true_beq, Option.toList, List.head?_cons, List.head?_nil, WR_nil2, WR_op, WR_re2, execR_no, execR_val2, execR_skip2, execR_enter2, execR_pan2, putRW_none2, putRW_some2, retRW_ret2, retRW_pan2, fixQ_normal2, fixQ_pan2, rsOf, hb, e2_F, hf10, hf11, neNil2, row1, row2, ground_max, maxO_i, hw1, hw, hmx, hne0, h0, h5, h7, h8, h9]
      refine WC.mono (same_w 0 0 1 0 [((cntT (bs.take i) : Nat) : Int), ((cntF (bs.take i) + 1 - 1 : Nat) : Int)] (by simp) S') ?_
      rintro _ rfl
      simp only [thenW_normal, thenW_exit, thenW_ret, thenW_pan, W_skip, W_region, W_drawn, W_seq, W_cond, W_block, W_loop, W_exit, W_ret, seqQ_normal2, seqQ_exit2, seqQ_ret2, seqQ_pan2, blockW_normal2, blockW_ret2, blockW_pan2, blockW_exit2, WL_nil2, WL_cons, execL_no, execL_val2, execL_skip2, execL_enter2, execL_pan2, putL_none2, putL_some2, retL_ret2, retL_pan2, condW_t2, condW_f2, wantedA, exec1, evalO, initT, T.get_set, T.get_leaf, callA, mapO, ofOpt, ofOptS, ofConst, e2_P, e2_G, partsA, neNil3, finW_ret, finW_pan, giveW, resultsA, tupA, ground_not, notO_bool, fb_lss, fb_leq, fb_gtr, fb_geq, fb_add, fb_eqlI, fb_neqI, Nat.reduceLT, Nat.reduceAdd, Nat.reduceEqDiff, if_true, if_false, reduceIte, true_and, and_true, Option.getD_some, List.getElem?_toArray, List.getElem?_cons_succ, List.getElem?_cons_zero, Option.bind_some, List.nil_append, List.append_nil, beq_self_eq_true, Bool.false_eq_true, Bool.true_eq_false, decide_true, decide_false, Bool.not_true, Bool.not_false, Bool.false_beq, Bool.true_beq, Option.toList, List.head?_cons, List.head?_nil, WR_nil2, WR_op, WR_re2, execR_no, execR_val2, execR_skip2, execR_enter2, execR_pan2, putRW_none2, putRW_some2, retRW_ret2, retRW_pan2, fixQ_normal2, fixQ_pan2, rsOf, hb, e2_F, hf10, hf11, neNil2, row1, row2, ground_max, maxO_i, hw1, hw, hmx, hne0, h0, h5, h7, h8, h9]
      refine WX.mono (sc_loop na bs hna m (i + 1) _ S' (by omega) hS' ?_ ?_ ?_ ?_ ?_) (fun r h => h)
      · simp only [T.get_set, Nat.reduceEqDiff, if_false, h0]
      · simp only [T.get_set, Nat.reduceEqDiff, if_false, h5]
      · simp only [T.get_set, Nat.reduceEqDiff, if_false, if_true, h7, hT]
      · simp only [T.get_set, Nat.reduceEqDiff, if_false, if_true, hF]
      · simp only [T.get_set, Nat.reduceEqDiff, if_true]
end Go.Ax
noncomputable section
namespace Go.Ax
open Go.RowKit Go.Proofs Go.WideShapes
set_option linter.unusedVariables false
set_option linter.unusedSimpArgs false
set_option maxRecDepth 100000
theorem solo_awake (w : World) : Calls Tryz.prog 24 #[] w fun e w' => e = .returned (.bool true) ∧ Below w.heap.size w w' :=
  callsX_true (E := E1) e1_ok e1_intr e1_mix rfl (m := 2000) (k := 24) (args := []) (by kernel_rfl) (by kernel_rfl) (vs := []) ⟨rfl, fun k hk => by cases hk⟩
theorem off_le {p : Program} {fits : TypeId → Bool} : ∀ {d : Nat} {e : TypeId} {count off n : Nat}, Go.rowAt p fits d e count off n = true → off ≤ count * p.cellsOf e
  | 0, e, count, off, n, h => by simp [Go.rowAt] at h
  | d + 1, e, count, off, n, h => by
    unfold Go.rowAt at h
    simp only at h
    split at h
    · cases h
    · rename_i hs
      have hp : 0 < p.cellsOf e := Nat.pos_of_ne_zero hs
      have h1 : off / p.cellsOf e ≤ count ∧ (off % p.cellsOf e = 0 ∨ off / p.cellsOf e < count) := by
        simp only [Bool.or_eq_true, Bool.and_eq_true, beq_iff_eq, decide_eq_true_eq] at h
        rcases h with ⟨⟨h1, h2⟩, _⟩ | ⟨h1, _⟩
        · exact ⟨by omega, .inl h1⟩
        · exact ⟨by omega, .inr h1⟩
      have hdm := Nat.div_add_mod off (p.cellsOf e)
      have hml := Nat.mod_lt off hp
      rcases h1 with ⟨h1, h2 | h2⟩
      · rw [h2, Nat.add_zero] at hdm
        rw [← hdm, Nat.mul_comm]
        exact Nat.mul_le_mul_right _ h1
      · have h3 : (off / p.cellsOf e + 1) * p.cellsOf e ≤ count * p.cellsOf e := Nat.mul_le_mul_right _ h2
        rw [Nat.add_mul, Nat.one_mul, Nat.mul_comm (off / p.cellsOf e)] at h3
        omega
theorem lies_le {p : Program} : ∀ {d : Nat} {e : TypeId} {count off : Nat} {u : TypeId} {n : Nat}, liesAt p d e count off u n = true → off ≤ count * p.cellsOf e
  | 0, e, count, off, u, n, h => by simp [liesAt] at h
  | d + 1, e, count, off, u, n, h => by
    unfold liesAt at h
    rw [Bool.or_eq_true] at h
    rcases h with h | h
    · exact off_le h
    · split at h
      · exact lies_le h
      · cases h
theorem has_off {P : Program} {W : World} {base : Nat} {a : Addr} {e : TypeId} {n : Nat} (h : W.has P .any base a e n) : ∃ b o arr T fr, a = ⟨b, o, none⟩ ∧ W.heap[b]? = some (Obj.cells arr T fr) ∧ o ≤ arr.size := by
  obtain ⟨_, hs, row, cells, h1, h2⟩ := h
  obtain ⟨b, o, spot⟩ := a
  simp only at hs
  subst hs
  simp only [World.shape?] at h1
  split at h1
  · rename_i c el fr he
    simp only [Option.some.injEq, Prod.mk.injEq] at h1
    obtain ⟨rfl, rfl⟩ := h1
    refine ⟨b, o, c, _, fr, rfl, he, ?_⟩
    have := lies_le h2
    exact Nat.le_trans this (Nat.div_mul_le_self _ _)
  · cases h1
theorem cell_bound {W : World} {b o : Nat} {arr : Array Value} {T : TypeId} {fr : Nat × Nat} {v : Value} (ha : W.heap[b]? = some (Obj.cells arr T fr)) (h : W.cell? ⟨b, o, none⟩ = some v) : o < arr.size := by
  unfold World.cell? at h
  rw [ha] at h
  simp only [Option.isSome_none, Bool.false_eq_true, if_false] at h
  exact (Array.getElem?_eq_some_iff.1 h).1
theorem row_in {W w1 : World} (hb : Below W.heap.size W w1) {b o len cap : Nat} {arr : Array Value} {T : TypeId} {fr : Nat × Nat} (ha : W.heap[b]? = some (Obj.cells arr T fr)) (hz : o + cap ≤ arr.size) (hl : len ≤ cap) (V : Nat → Value) (hsc : ∀ i, scalar (V i) = true)
    (hcell : ∀ i, i < len → W.cell? ⟨b, o + i, none⟩ = some (V i)) : VR (GhW w1) w1 (.sl 0 0 1 ((List.range len).map fun i => .v (V i))) (.slice (some ⟨b, o, none⟩) len cap) := by
  have hlt : b < W.heap.size := (Array.getElem?_eq_some_iff.1 ha).1
  have hk : w1.heap[b]? = W.heap[b]? := hb.block b hlt
  have hlt1 : b < w1.heap.size := Nat.lt_of_lt_of_le hlt hb.size
  have hc1 : ∀ i, i < len → w1.cell? ⟨b, o + i, none⟩ = some (V i) := fun i hi => by
    rw [← hcell i hi]
    unfold World.cell?
    simp only [hk]
  have hfl : ∀ l : List Nat, flat (l.map fun i => AV.v (V i)) = l.map fun i => AV.v (V i) := fun l => by
    induction l with
    | nil => rfl
    | cons x r ih =>
      show AV.cells (AV.v (V x)) ++ flat (r.map fun i => AV.v (V i)) = _
      rw [ih]; rfl
  have hmain : VR (GhW w1) w1 (.sl 0 0 1 ((List.range len).map fun i => .v (V i))) (.slice (some ⟨b, o, none⟩) ((List.range len).map fun i => AV.v (V i)).length cap) := by
    refine .sl 0 0 1 _ b o cap V (by omega) (fun e he => ?_) (fun x hx => ?_) (fun k hk => ?_) (fun k hk => ?_) (fun h => absurd h (by omega)) (fun h => absurd h (by omega)) (by simpa using hl) ⟨arr, T, fr, by rw [hk]; exact ha, by simpa using hz⟩
    · obtain ⟨s, _, rfl⟩ := List.mem_map.1 he; rfl
    · rw [hfl] at hx; obtain ⟨s, _, rfl⟩ := List.mem_map.1 hx; rfl
    · rw [hfl] at hk
      have hk2 : k < len := by simpa using hk
      exact ⟨⟨hlt1, _, hc1 k hk2⟩, hc1 k hk2⟩
    · have hk2 : k < len := by rw [hfl] at hk; simpa using hk
      have e1 : (flat ((List.range len).map fun i => AV.v (V i)))[k] = AV.v (V k) := by
        simp only [hfl, List.getElem_map, List.getElem_range]
      rw [e1]
      exact .v _ (hsc k)
  simpa using hmain
theorem u4 : Tryz.prog.underlying 4 = some .bool := by kernel_rfl
theorem c4 : Tryz.prog.cellsOf 4 = 1 := by kernel_rfl
def BoolIn (W : World) (v : Value) : Prop := ∃ (ss : List Bool) (na : AV), isRowB na ss ∧ ∀ w1, Below W.heap.size W w1 → VR (GhW w1) w1 na v
theorem bools_in {H : Type} {enc : TypeId × Value → H} {W : World} {base fuel : Nat} {a0 : Option Addr} {len cap : Nat} {x : DataW H × List MemPlace} (hok : Value.okWide Tryz.prog W .any base 38 (.slice a0 len cap))
    (hf : DataW.trod enc Tryz.prog W 0 (fun _ => true) true fuel 38 (Value.slice a0 len cap).cells.toList = some x) : BoolIn W (.slice a0 len cap) := by
  rcases Go.Deep.open_bools u36 u4 c4 hf with ⟨hcs, hx⟩ | ⟨a, len', cap', V, hcs, _, hl, hm, hx, hcell⟩
  · simp [Value.cells] at hcs
    obtain ⟨rfl, rfl, rfl⟩ := hcs
    exact ⟨[], .nils, .inl ⟨rfl, rfl⟩, fun _ _ => .nils⟩
  · simp [Value.cells] at hcs
    obtain ⟨rfl, rfl, rfl⟩ := hcs
    simp only [Value.okWide, u36, Cell.okWide, Cell.ok] at hok
    obtain ⟨b, o, arr, T, fr, rfl, ha, ho⟩ := has_off hok.2.2
    have hc : ∀ i, i < cap → W.cell? ⟨b, o + i, none⟩ = some (.bool (V i)) := fun i hi => by rw [← Go.WideShapes.add_plain]; exact hcell i hi
    have hsz : o + cap ≤ arr.size := by
      by_cases h0 : cap = 0
      · omega
      · have := cell_bound ha (hc (cap - 1) (by omega)); omega
    refine ⟨(List.range len).map V, .sl 0 0 1 ((List.range len).map fun i => .v (.bool (V i))), .inr ⟨0, 0, by simp [boolB, Function.comp_def]⟩, fun w1 hb => row_in hb ha hsz hl (fun i => .bool (V i)) (fun _ => rfl) (fun i hi => hc i (by omega))⟩
end Go.Ax
noncomputable section
namespace Go.Ax
open Go.RowKit Go.Proofs
set_option linter.unusedVariables false
set_option linter.unusedSimpArgs false
set_option maxRecDepth 100000
theorem sc_rest (na : AV) (bs : List Bool) (hna : isRowB na bs) (f : T AV) (S : St) (h0 : f.get 0 = some na) (h5 : f.get 5 = some (.ptr 3003 0)) (h6 : f.get 6 = some (.v (.bool true))) (hS : ScI S 0 0) :
    W (E2 3017 [3003, 2995, 2951]) 52 scRest ⟨f, []⟩ S (fun r => ∃ f' S', r = .out .ret ⟨f', []⟩ S' ∧ f'.get 2 = some (.v (.bool true))) := by
  simp only [thenW_normal, thenW_exit, thenW_ret, thenW_pan, W_skip, W_region, W_drawn, W_seq, W_cond, W_block, W_loop, W_exit, W_ret, seqQ_normal2, seqQ_exit2, seqQ_ret2, seqQ_pan2, blockW_normal2, blockW_ret2, blockW_pan2, blockW_exit2, WL_nil2, WL_cons, execL_no, execL_val2, execL_skip2, execL_enter2, execL_pan2, putL_none2, putL_some2, retL_ret2, retL_pan2, condW_t2, condW_f2, wantedA, exec1, evalO, initT, T.get_set, T.get_leaf, callA, mapO, ofOpt, ofOptS, ofConst, e2_P, e2_G, partsA, neNil3, finW_ret, finW_pan, giveW, resultsA, tupA, ground_not, notO_bool, fb_lss, fb_leq, fb_gtr, fb_geq, fb_add, fb_eqlI, fb_neqI, Nat.reduceLT, Nat.reduceAdd, Nat.reduceEqDiff, if_true, if_false, reduceIte, true_and, and_true, Option.getD_some, List.getElem?_toArray, List.getElem?_cons_succ, List.getElem?_cons_zero, Option.bind_some, List.nil_append, List.append_nil, beq_self_eq_true, Bool.false_eq_true, Bool.true_eq_false, decide_true, decide_false, Bool.not_true, Bool.not_false, Bool.false_beq, Bool.true_beq, Option.toList, List.head?_cons, List.head?_nil, WR_nil2, WR_op, WR_re2, execR_no, execR_val2, execR_skip2, execR_enter2, execR_pan2, putRW_none2, putRW_some2, retRW_ret2, retRW_pan2, fixQ_normal2, fixQ_pan2, rsOf, scRest, Tryz.f8, h6]
  refine WX.mono (sc_loop na bs hna (min bs.length 40) 0 _ S (by omega) hS ?_ ?_ ?_ ?_ ?_) ?_
  · simp only [T.get_set, Nat.reduceEqDiff, if_false, h0]
  · simp only [T.get_set, Nat.reduceEqDiff, if_false, h5]
  · simp only [T.get_set, Nat.reduceEqDiff, if_false, if_true]; rfl
  · simp only [T.get_set, Nat.reduceEqDiff, if_false, if_true]; rfl
  · simp only [T.get_set, Nat.reduceEqDiff, if_true]; rfl
  rintro _ ⟨t', S', rfl⟩
  simp only [thenW_normal, thenW_exit, thenW_ret, thenW_pan, W_skip, W_region, W_drawn, W_seq, W_cond, W_block, W_loop, W_exit, W_ret, seqQ_normal2, seqQ_exit2, seqQ_ret2, seqQ_pan2, blockW_normal2, blockW_ret2, blockW_pan2, blockW_exit2, WL_nil2, WL_cons, execL_no, execL_val2, execL_skip2, execL_enter2, execL_pan2, putL_none2, putL_some2, retL_ret2, retL_pan2, condW_t2, condW_f2, wantedA, exec1, evalO, initT, T.get_set, T.get_leaf, callA, mapO, ofOpt, ofOptS, ofConst, e2_P, e2_G, partsA, neNil3, finW_ret, finW_pan, giveW, resultsA, tupA, ground_not, notO_bool, fb_lss, fb_leq, fb_gtr, fb_geq, fb_add, fb_eqlI, fb_neqI, Nat.reduceLT, Nat.reduceAdd, Nat.reduceEqDiff, if_true, if_false, reduceIte, true_and, and_true, Option.getD_some, List.getElem?_toArray, List.getElem?_cons_succ, List.getElem?_cons_zero, Option.bind_some, List.nil_append, List.append_nil, beq_self_eq_true, Bool.false_eq_true, Bool.true_eq_false, decide_true, decide_false, Bool.not_true, Bool.not_false, Bool.false_beq, Bool.true_beq, Option.toList, List.head?_cons, List.head?_nil, WR_nil2, WR_op, WR_re2, execR_no, execR_val2, execR_skip2, execR_enter2, execR_pan2, putRW_none2, putRW_some2, retRW_ret2, retRW_pan2, fixQ_normal2, fixQ_pan2, rsOf, scRest, Tryz.f8, h6]
  exact ⟨_, _, rfl, by simp only [T.get_set, Nat.reduceEqDiff, if_true]⟩
theorem scI0 {na : AV} : (outF (scO2 na)).get 0 = some na ∧ (outF (scO2 na)).get 5 = some (.ptr 3003 0) ∧ (outF (scO2 na)).get 6 = some (.v (.bool true)) ∧ ScI (outS (scO2 na)) 0 0 := by
  obtain ⟨_, h2, h3, h4⟩ := lookO_spec (scO2_ok na)
  simp only [List.map_cons, List.map_nil, List.cons.injEq, and_true] at h3 h4
  refine ⟨h3.1, h3.2.1, h3.2.2, ScI.of ⟨by omega, h4.1, h4.2.1, h4.2.2⟩ ?_⟩
  exact ⟨rfl, rfl, rfl, rfl, rfl, rfl, rfl⟩
theorem soloClocks_any (v0 : Value) (w : World) (hv0 : BoolIn w v0) : Calls Tryz.prog 8 #[v0] w fun x w' => x = .returned (.bool true) ∧ Below w.heap.size w w' := by
  obtain ⟨bs, na, hn, hna⟩ := hv0
  go_enter Tryz.func8, Tryz.ntmps8
  refine wp_seq_k fun K0 h0 => ?_
  have H0 := Lib.hid h0; clear h0
  go_wp2_with fail
  refine H0.out _ _ ?_
  clear H0 K0
  refine wp_seq_k fun K1 h1 => ?_
  have H1 := Lib.hid h1; clear h1
  go_wp2_with fail
  refine (solo_awake w).mono ?_
  rintro x w1 ⟨rfl, hb1⟩
  go_wp2_with fail
  refine H1.out _ _ ?_
  clear H1 K1
  obtain ⟨k1, _⟩ : scO1 na = .out .normal ⟨outF (scO1 na), []⟩ (outS (scO1 na)) ∧ True := by
    obtain ⟨x, hx⟩ := Option.isSome_iff_exists.1 (scO1_ok na)
    obtain ⟨n, vs, cs⟩ := x
    exact ⟨(lookO_spec hx).1, trivial⟩
  have k2 := (lookO_spec (scO2_ok na)).1
  refine wp_seq_k fun K2 h2 => ?_
  refine codeX_norm (c := scR3) (E := E1) e1_ok e1_intr e1_mix rfl (m := 2000) (n := 52) (f := frL [(0, na)]) (S := St0) (r := scO1 na) rfl k1 (SR.whole w1) (frL_ok _ ?_) rfl rfl ?_
  · intro p hp
    simp only [List.mem_cons, List.not_mem_nil, or_false] at hp
    subst hp
    exact ⟨_, rfl, hna w1 hb1⟩
  intro act2 w2 γ2 hn2 hd2 hS2 hf2
  refine h2 _ _ ?_
  clear h2 K2
  refine wp_seq_k fun K3 h3 => ?_
  refine codeX_norm (c := scR4) (E := E1) e1_ok e1_intr e1_mix rfl (m := 2000) (n := 52) (f := outF (scO1 na)) (S := outS (scO1 na)) (r := scO2 na) rfl k2 hS2 hf2 hn2 hd2 ?_
  intro act3 w3 γ3 hn3 hd3 hS3 hf3
  refine h3 _ _ ?_
  clear h3 K3
  obtain ⟨g0, g5, g6, gS⟩ := scI0 (na := na)
  refine codeW (c := scRest) (E := (E2 3017 [3003, 2995, 2951])) (t := 2) (n := 52) (e2_ok 3017 [3003, 2995, 2951]) (e2_intr 3017 [3003, 2995, 2951]) (e2_mix 3017 [3003, 2995, 2951]) rfl (sc_rest na bs hn _ _ g0 g5 g6 gS) hS3 hf3 hn3 hd3 ?_
  intro act' w' hs hd ht hb2
  refine ⟨hd, .bool true, ?_, rfl, hb1.trans (hb2.mono hb1.size)⟩
  have h4 : act'.tmps.getD 2 undef = .bool true := by simp [Array.getD_eq_getD_getElem?, ht]
  simp [results, Tryz.f8, h4, go_sem, ht]
end Go.Ax
