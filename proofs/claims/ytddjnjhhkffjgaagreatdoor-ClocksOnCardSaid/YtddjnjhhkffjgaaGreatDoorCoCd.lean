/-
  ClocksOn, reasoned over: its end.
-/
import Derived.Test.YtddjnjhhkffjgaaGreatDoorCoCc
noncomputable section
namespace Go.Ax
open Go.RowKit Go.Proofs
set_option linter.unusedVariables false
set_option linter.unusedSimpArgs false
set_option maxRecDepth 100000
set_option maxHeartbeats 4000000 in
theorem clk_end (m j : Nat) (na oa : AV) (ss : List ByteArray) (bs : List Bool) (i : Nat) (t : T AV) (S : St) (hn : isRow1 na (ss.map strB)) (ho : isRow1 oa (bs.map boolB))
    (h : ¬ (i < ss.length ∧ i < bs.length ∧ i < 5)) (f0 : t.get 0 = some na) (f1 : t.get 1 = some oa) (f10 : t.get 10 = some (.v (.int .i64 (i : Int)))) :
    ∃ t', runC E1 (drawnNew E1) (callC E1 (m + 2)) (j + 20) 102 clkBody ⟨t, []⟩ S = .out (.exit 0) ⟨t', []⟩ S ∧ t'.get 2 = t.get 2 ∧ t'.get 3 = t.get 3 ∧ t'.get 9 = t.get 9 := by
  have L1 := fun S => len34 S hn
  have L2 := fun S => len44 S ho
  simp only [List.length_map] at L1 L2
  simp only [clkBody, Tryz.f5]
  by_cases c1 : i < ss.length
  · have b1 : ((i : Int) < (ss.length : Int)) := by omega
    by_cases c2 : i < bs.length
    · have b2 : ((i : Int) < (bs.length : Int)) := by omega
      have b3 : ¬ ((i : Int) < 5) := by intro e; exact h ⟨c1, c2, by omega⟩
      simp only [seq_run, region_run, ret_run, block_run, cond_run, skip_run, exit_run, drawn_run, runL_cons, runL_nil, stepO, wantedA, List.getElem?_toArray, List.getElem?_cons_succ, List.getElem?_cons_zero, Option.bind_some, exec1, evalO, T.get_set, T.get_leaf, putA, callA, mapO, ofOpt, ofConst, e1_P, e1_G, Nat.reduceLT, Nat.reduceAdd, Nat.reduceEqDiff, if_true, if_false, reduceIte, f0, f1, f10, L1, L2, neNil3, fb_lss, b1, b2, b3, decide_true, decide_false, beq_self_eq_true, Bool.false_eq_true]
      exact ⟨_, rfl, by simp only [T.get_set, Nat.reduceEqDiff, if_false], by simp only [T.get_set, Nat.reduceEqDiff, if_false], by simp only [T.get_set, Nat.reduceEqDiff, if_false]⟩
    · have b2 : ¬ ((i : Int) < (bs.length : Int)) := by omega
      simp only [seq_run, region_run, ret_run, block_run, cond_run, skip_run, exit_run, drawn_run, runL_cons, runL_nil, stepO, wantedA, List.getElem?_toArray, List.getElem?_cons_succ, List.getElem?_cons_zero, Option.bind_some, exec1, evalO, T.get_set, T.get_leaf, putA, callA, mapO, ofOpt, ofConst, e1_P, e1_G, Nat.reduceLT, Nat.reduceAdd, Nat.reduceEqDiff, if_true, if_false, reduceIte, f0, f1, f10, L1, L2, neNil3, fb_lss, b1, b2, decide_true, decide_false, beq_self_eq_true, Bool.false_eq_true, Bool.false_beq, Bool.not_true]
      exact ⟨_, rfl, by simp only [T.get_set, Nat.reduceEqDiff, if_false], by simp only [T.get_set, Nat.reduceEqDiff, if_false], by simp only [T.get_set, Nat.reduceEqDiff, if_false]⟩
  · have b1 : ¬ ((i : Int) < (ss.length : Int)) := by omega
    simp only [seq_run, region_run, ret_run, block_run, cond_run, skip_run, exit_run, drawn_run, runL_cons, runL_nil, stepO, wantedA, List.getElem?_toArray, List.getElem?_cons_succ, List.getElem?_cons_zero, Option.bind_some, exec1, evalO, T.get_set, T.get_leaf, putA, callA, mapO, ofOpt, ofConst, e1_P, e1_G, Nat.reduceLT, Nat.reduceAdd, Nat.reduceEqDiff, if_true, if_false, reduceIte, f0, f1, f10, L1, L2, neNil3, fb_lss, b1, decide_true, decide_false, beq_self_eq_true, Bool.false_eq_true, Bool.false_beq, Bool.not_true]
    exact ⟨_, rfl, by simp only [T.get_set, Nat.reduceEqDiff, if_false], by simp only [T.get_set, Nat.reduceEqDiff, if_false], by simp only [T.get_set, Nat.reduceEqDiff, if_false]⟩
theorem gA_snoc (gs : List Gd) (s : ByteArray) (b : Bool) : gA gs ++ [G s b] = gA (gs ++ [(s, b)]) := by simp [gA]
theorem clk_loop (m j : Nat) (na oa : AV) (ss : List ByteArray) (bs : List Bool) (hn : isRow1 na (ss.map strB)) (ho : isRow1 oa (bs.map boolB)) : ∀ (k i : Nat) (c : AV) (gs : List Gd) (t : T AV) (S : St), i + k = 5 → gs.length ≤ i → isRow c (gA gs) →
    t.get 0 = some na → t.get 1 = some oa → t.get 9 = some c → t.get 10 = some (.v (.int .i64 (i : Int))) →
    ∃ t' S' c' gs', runC E1 (drawnNew E1) (callC E1 (m + 2)) (j + k + 21) 102 (.loop clkBody) ⟨t, []⟩ S = .out (.exit 0) ⟨t', []⟩ S' ∧ t'.get 2 = t.get 2 ∧ t'.get 3 = t.get 3 ∧ t'.get 9 = some c' ∧ isRow c' (gA gs') ∧ gs'.length ≤ 5
  | 0, i, c, gs, t, S, hik, hl, hc, f0, f1, f9, f10 => by
    obtain ⟨t', h1, h2, h3, h4⟩ := clk_end m j na oa ss bs i t S hn ho (by omega) f0 f1 f10
    refine ⟨t', S, c, gs, ?_, h2, h3, h4.trans f9, hc, by omega⟩
    show runC E1 (drawnNew E1) (callC E1 (m + 2)) (j + 20 + 1) 102 (.loop clkBody) ⟨t, []⟩ S = _
    rw [loop_run, h1]
  | k + 1, i, c, gs, t, S, hik, hl, hc, f0, f1, f9, f10 => by
    have e : j + (k + 1) + 21 = (j + k + 21) + 1 := by omega
    by_cases h : i < ss.length ∧ i < bs.length ∧ i < 5
    · obtain ⟨h1, h2, h3⟩ := h
      obtain ⟨t2, S2, q1, q0, qa, qb, qc, q9, q10⟩ := clk_round m (j + k + 1) na oa ss bs c gs i t S hn ho hc (by omega) h1 h2 h3 f0 f1 f9 f10
      rw [gA_snoc] at q9
      obtain ⟨t', S', c', gs', k1, k2, k3, k4, k5, k6⟩ := clk_loop m j na oa ss bs hn ho k (i + 1) _ (gs ++ [(ss[i], bs[i])]) t2 S2 (by omega) (by simp; omega) (.inr ⟨_, _, rfl⟩) q0 qa q9 q10
      refine ⟨t', S', c', gs', ?_, k2.trans qb, k3.trans qc, k4, k5, k6⟩
      have q1' : runC E1 (drawnNew E1) (callC E1 (m + 2)) (j + k + 21) 102 clkBody ⟨t, []⟩ S = .out .normal ⟨t2, []⟩ S2 := q1
      rw [e, loop_run, q1']
      exact k1
    · obtain ⟨t', h1, h2, h3, h4⟩ := clk_end m (j + k + 1) na oa ss bs i t S hn ho h f0 f1 f10
      have h1' : runC E1 (drawnNew E1) (callC E1 (m + 2)) (j + k + 21) 102 clkBody ⟨t, []⟩ S = .out (.exit 0) ⟨t', []⟩ S := h1
      refine ⟨t', S, c, gs, ?_, h2, h3, h4.trans f9, hc, by omega⟩
      rw [e, loop_run, h1']
end Go.Ax
