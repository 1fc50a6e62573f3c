/-
  SoloClocks: the loop; true, whatever comes in.
-/
import Derived.Test.YtpjffjgdnendbaaGreatDoorWUgsc
noncomputable section
namespace Go.Ax
open Go.RowKit Go.Proofs
set_option linter.unusedVariables false
set_option linter.unusedSimpArgs false
set_option maxRecDepth 100000

noncomputable def scBody : Code := match scRest with
  | .seq _ (.seq _ (.seq (.seq _ (.block _ (.loop c))) _)) => c
  | _ => .skip
theorem scBody_is : (match scBody with | .skip => false | _ => true) = true := by kernel_rfl
def cntT (l : List Bool) : Nat := l.countP (· == true)
def cntF (l : List Bool) : Nat := l.countP (· == false)
theorem cnt_sum (l : List Bool) : cntT l + cntF l = l.length := by
  unfold cntT cntF
  induction l with
  | nil => rfl
  | cons b r ih => cases b <;> simp <;> simp at ih <;> omega
theorem cntT_take (l : List Bool) (i : Nat) (h : i < l.length) : cntT (l.take (i + 1)) = if l[i] then cntT (l.take i) + 1 else cntT (l.take i) := by
  unfold cntT
  rw [List.take_succ_eq_append_getElem h, List.countP_append]
  cases l[i] <;> simp
theorem cntF_take (l : List Bool) (i : Nat) (h : i < l.length) : cntF (l.take (i + 1)) = if l[i] then cntF (l.take i) else cntF (l.take i) + 1 := by
  unfold cntF
  rw [List.take_succ_eq_append_getElem h, List.countP_append]
  cases l[i] <;> simp
theorem wrap_less {n : Nat} (h : n ≤ 1000000) : IntKind.i64.wrap ((n : Int) - 1 + 1) = ((n + 1 : Nat) : Int) - 1 := by
  have e : ((n : Int) - 1 + 1) = (n : Int) := by omega
  rw [e, wrap_nat (by omega)]; push_cast; omega
theorem max_less (n : Nat) : (if (0 : Int) > (n : Int) - 1 then (0 : Int) else (n : Int) - 1) = ((n - 1 : Nat) : Int) := by
  split <;> omega
set_option maxHeartbeats 8000000 in
theorem sc_loop (na : AV) (bs : List Bool) (hna : isRowB na bs) : ∀ (m i : Nat) (t : T AV) (S : St), i + m = min bs.length 40 → ScI S (cntT (bs.take i)) (cntF (bs.take i)) → t.get 0 = some na → t.get 5 = some (.ptr 2950 0) → t.get 7 = some (.v (.int .i64 ((cntT (bs.take i) : Nat) : Int))) → t.get 8 = some (.v (.int .i64 (((cntF (bs.take i) : Nat) : Int) - 1))) → t.get 9 = some (.v (.int .i64 (i : Int))) →
    WX (E2 3014 [2950, 2949, 3013]) 52 (.loop scBody) ⟨t, []⟩ S (fun r => ∃ t' S', r = .out (.exit 0) ⟨t', []⟩ S')
  | 0, i, t, S, hi, hS, h0, h5, h7, h8, h9 => by
    refine WX_loop (W_sound ?_)
    have hlen := fun S => len36 S hna
    by_cases hlt : (i : Int) < (bs.length : Int)
    · have h40 : ¬ ((i : Int) < 40) := by omega
      simp only [thenW_normal, thenW_exit, thenW_ret, thenW_pan, W_skip, W_region, W_drawn, W_seq, W_cond, W_block, W_loop, W_exit, W_ret, seqQ_normal2, seqQ_exit2, seqQ_ret2, seqQ_pan2, blockW_normal2, blockW_ret2, blockW_pan2, blockW_exit2, WL_nil2, WL_cons, execL_no, execL_val2, execL_skip2, execL_enter2, execL_pan2, putL_none2, putL_some2, retL_ret2, retL_pan2, condW_t2, condW_f2, wantedA, exec1, evalO, initT, T.get_set, T.get_leaf, callA, mapO, ofOpt, ofOptS, ofConst, e2_P, e2_G, partsA, neNil3, finW_ret, finW_pan, giveW, resultsA, tupA, ground_not, notO_bool, fb_lss, fb_leq, fb_gtr, fb_geq, fb_add, fb_eqlI, fb_neqI, Nat.reduceLT, Nat.reduceAdd, Nat.reduceEqDiff, if_true, if_false, reduceIte, true_and, and_true, Option.getD_some, List.getElem?_toArray, List.getElem?_cons_succ, List.getElem?_cons_zero, Option.bind_some, List.nil_append, List.append_nil, beq_self_eq_true, Bool.false_eq_true, Bool.true_eq_false, decide_true, decide_false, Bool.not_true, Bool.not_false, Bool.false_beq, Bool.true_beq, Option.toList, List.head?_cons, List.head?_nil, WR_nil2, WR_op, WR_re2, execR_no, execR_val2, execR_skip2, execR_enter2, execR_pan2, putRW_none2, putRW_some2, retRW_ret2, retRW_pan2, fixQ_normal2, fixQ_pan2, rsOf, scBody, scRest, Tryz.f4, hlen, h0, h9, hlt, h40]
      exact ⟨_, _, rfl⟩
    · simp only [thenW_normal, thenW_exit, thenW_ret, thenW_pan, W_skip, W_region, W_drawn, W_seq, W_cond, W_block, W_loop, W_exit, W_ret, seqQ_normal2, seqQ_exit2, seqQ_ret2, seqQ_pan2, blockW_normal2, blockW_ret2, blockW_pan2, blockW_exit2, WL_nil2, WL_cons, execL_no, execL_val2, execL_skip2, execL_enter2, execL_pan2, putL_none2, putL_some2, retL_ret2, retL_pan2, condW_t2, condW_f2, wantedA, exec1, evalO, initT, T.get_set, T.get_leaf, callA, mapO, ofOpt, ofOptS, ofConst, e2_P, e2_G, partsA, neNil3, finW_ret, finW_pan, giveW, resultsA, tupA, ground_not, notO_bool, fb_lss, fb_leq, fb_gtr, fb_geq, fb_add, fb_eqlI, fb_neqI, Nat.reduceLT, Nat.reduceAdd, Nat.reduceEqDiff, if_true, if_false, reduceIte, true_and, and_true, Option.getD_some, List.getElem?_toArray, List.getElem?_cons_succ, List.getElem?_cons_zero, Option.bind_some, List.nil_append, List.append_nil, beq_self_eq_true, Bool.false_eq_true, Bool.true_eq_false, decide_true, decide_false, Bool.not_true, Bool.not_false, Bool.false_beq, Bool.true_beq, Option.toList, List.head?_cons, List.head?_nil, WR_nil2, WR_op, WR_re2, execR_no, execR_val2, execR_skip2, execR_enter2, execR_pan2, putRW_none2, putRW_some2, retRW_ret2, retRW_pan2, fixQ_normal2, fixQ_pan2, rsOf, scBody, scRest, Tryz.f4, hlen, h0, h9, hlt]
      exact ⟨_, _, rfl⟩
  | m + 1, i, t, S, hi, hS, h0, h5, h7, h8, h9 => by
    refine WX_loop (W_sound ?_)
    have hlen := fun S => len36 S hna
    have hil : i < bs.length := by omega
    have hlt : (i : Int) < (bs.length : Int) := by omega
    have h40 : ((i : Int) < 40) := by omega
    have hx := idx36 hna i hil
    have hsum := cnt_sum (bs.take i)
    have hlt2 : (bs.take i).length ≤ 40 := by rw [List.length_take]; omega
    have hT := cntT_take bs i hil
    have hF := cntF_take bs i hil
    obtain ⟨fn11, hf11⟩ := f11_some
    obtain ⟨fn10, hf10⟩ := f10_some
    have hw := wrap_one (i := i) (by omega)
    obtain ⟨S', hr, hS'⟩ := sc_round S _ _ hS (by omega) bs[i] _ _ hT hF
    have hne0 : ((0 : Int) != 0) = false := rfl
    have hmx := max_less (cntF (bs.take (i + 1)))
    simp only [thenW_normal, thenW_exit, thenW_ret, thenW_pan, W_skip, W_region, W_drawn, W_seq, W_cond, W_block, W_loop, W_exit, W_ret, seqQ_normal2, seqQ_exit2, seqQ_ret2, seqQ_pan2, blockW_normal2, blockW_ret2, blockW_pan2, blockW_exit2, WL_nil2, WL_cons, execL_no, execL_val2, execL_skip2, execL_enter2, execL_pan2, putL_none2, putL_some2, retL_ret2, retL_pan2, condW_t2, condW_f2, wantedA, exec1, evalO, initT, T.get_set, T.get_leaf, callA, mapO, ofOpt, ofOptS, ofConst, e2_P, e2_G, partsA, neNil3, finW_ret, finW_pan, giveW, resultsA, tupA, ground_not, notO_bool, fb_lss, fb_leq, fb_gtr, fb_geq, fb_add, fb_eqlI, fb_neqI, Nat.reduceLT, Nat.reduceAdd, Nat.reduceEqDiff, if_true, if_false, reduceIte, true_and, and_true, Option.getD_some, List.getElem?_toArray, List.getElem?_cons_succ, List.getElem?_cons_zero, Option.bind_some, List.nil_append, List.append_nil, beq_self_eq_true, Bool.false_eq_true, Bool.true_eq_false, decide_true, decide_false, Bool.not_true, Bool.not_false, Bool.false_beq, Bool.true_beq, Option.toList, List.head?_cons, List.head?_nil, WR_nil2, WR_op, WR_re2, execR_no, execR_val2, execR_skip2, execR_enter2, execR_pan2, putRW_none2, putRW_some2, retRW_ret2, retRW_pan2, fixQ_normal2, fixQ_pan2, rsOf, scBody, scRest, Tryz.f4, hlen, h0, h5, h7, h8, h9, hlt, h40, hx, ld4]
    cases hb : bs[i] with
    | true =>
      rw [hb] at hT hF hr
      have hw1 := wrap_one (i := cntT (bs.take i)) (by omega)
      have hT : cntT (bs.take (i + 1)) = cntT (bs.take i) + 1 := hT
      have hF : cntF (bs.take (i + 1)) = cntF (bs.take i) := hF
      rw [hF] at hmx
      rw [hT, hF] at hr
      simp only [thenW_normal, thenW_exit, thenW_ret, thenW_pan, W_skip, W_region, W_drawn, W_seq, W_cond, W_block, W_loop, W_exit, W_ret, seqQ_normal2, seqQ_exit2, seqQ_ret2, seqQ_pan2, blockW_normal2, blockW_ret2, blockW_pan2, blockW_exit2, WL_nil2, WL_cons, execL_no, execL_val2, execL_skip2, execL_enter2, execL_pan2, putL_none2, putL_some2, retL_ret2, retL_pan2, condW_t2, condW_f2, wantedA, exec1, evalO, initT, T.get_set, T.get_leaf, callA, mapO, ofOpt, ofOptS, ofConst, e2_P, e2_G, partsA, neNil3, finW_ret, finW_pan, giveW, resultsA, tupA, ground_not, notO_bool, fb_lss, fb_leq, fb_gtr, fb_geq, fb_add, fb_eqlI, fb_neqI, Nat.reduceLT, Nat.reduceAdd, Nat.reduceEqDiff, if_true, if_false, reduceIte, true_and, and_true, Option.getD_some, List.getElem?_toArray, List.getElem?_cons_succ, List.getElem?_cons_zero, Option.bind_some, List.nil_append, List.append_nil, beq_self_eq_true, Bool.false_eq_true, Bool.true_eq_false, decide_true, decide_false, Bool.not_true, Bool.not_false, Bool.false_beq, Bool.true_beq, Option.toList, List.head?_cons, List.head?_nil, WR_nil2, WR_op, WR_re2, execR_no, execR_val2, execR_skip2, execR_enter2, execR_pan2, putRW_none2, putRW_some2, retRW_ret2, retRW_pan2, fixQ_normal2, fixQ_pan2, rsOf, hb, e2_F, hf10, hf11, neNil2, row1, row2, ground_max, maxO_i, hw1, hw, hmx, hne0, h0, h5, h7, h8, h9]
      refine WC_known (e2_i11 ..) ?_
      rw [show viaSmall E1 2000 11 3014 [2950, 2949, 3013] [.ptr 2950 0, rowI 1 0 [1]] S = _ from hr]
      simp only [thenW_normal, thenW_exit, thenW_ret, thenW_pan, W_skip, W_region, W_drawn, W_seq, W_cond, W_block, W_loop, W_exit, W_ret, seqQ_normal2, seqQ_exit2, seqQ_ret2, seqQ_pan2, blockW_normal2, blockW_ret2, blockW_pan2, blockW_exit2, WL_nil2, WL_cons, execL_no, execL_val2, execL_skip2, execL_enter2, execL_pan2, putL_none2, putL_some2, retL_ret2, retL_pan2, condW_t2, condW_f2, wantedA, exec1, evalO, initT, T.get_set, T.get_leaf, callA, mapO, ofOpt, ofOptS, ofConst, e2_P, e2_G, partsA, neNil3, finW_ret, finW_pan, giveW, resultsA, tupA, ground_not, notO_bool, fb_lss, fb_leq, fb_gtr, fb_geq, fb_add, fb_eqlI, fb_neqI, Nat.reduceLT, Nat.reduceAdd, Nat.reduceEqDiff, if_true, if_false, reduceIte, true_and, and_true, Option.getD_some, List.getElem?_toArray, List.getElem?_cons_succ, List.getElem?_cons_zero, Option.bind_some, List.nil_append, List.append_nil, beq_self_eq_true, Bool.false_eq_true, Bool.true_eq_false, decide_true, decide_false, Bool.not_true, Bool.not_false, Bool.false_beq, Bool.true_beq, Option.toList, List.head?_cons, List.head?_nil, WR_nil2, WR_op, WR_re2, execR_no, execR_val2, execR_skip2, execR_enter2, execR_pan2, putRW_none2, putRW_some2, retRW_ret2, retRW_pan2, fixQ_normal2, fixQ_pan2, rsOf, hb, e2_F, hf10, hf11, neNil2, row1, row2, ground_max, maxO_i, hw1, hw, hmx, hne0, h0, h5, h7, h8, h9]
      refine WC.mono (same_w 0 0 1 0 [((cntT (bs.take i) + 1 : Nat) : Int), ((cntF (bs.take i) - 1 : Nat) : Int)] (by simp) S') ?_
      rintro _ rfl
      simp only [thenW_normal, thenW_exit, thenW_ret, thenW_pan, W_skip, W_region, W_drawn, W_seq, W_cond, W_block, W_loop, W_exit, W_ret, seqQ_normal2, seqQ_exit2, seqQ_ret2, seqQ_pan2, blockW_normal2, blockW_ret2, blockW_pan2, blockW_exit2, WL_nil2, WL_cons, execL_no, execL_val2, execL_skip2, execL_enter2, execL_pan2, putL_none2, putL_some2, retL_ret2, retL_pan2, condW_t2, condW_f2, wantedA, exec1, evalO, initT, T.get_set, T.get_leaf, callA, mapO, ofOpt, ofOptS, ofConst, e2_P, e2_G, partsA, neNil3, finW_ret, finW_pan, giveW, resultsA, tupA, ground_not, notO_bool, fb_lss, fb_leq, fb_gtr, fb_geq, fb_add, fb_eqlI, fb_neqI, Nat.reduceLT, Nat.reduceAdd, Nat.reduceEqDiff, if_true, if_false, reduceIte, true_and, and_true, Option.getD_some, List.getElem?_toArray, List.getElem?_cons_succ, List.getElem?_cons_zero, Option.bind_some, List.nil_append, List.append_nil, beq_self_eq_true, Bool.false_eq_true, Bool.true_eq_false, decide_true, decide_false, Bool.not_true, Bool.not_false, Bool.false_beq, Bool.true_beq, Option.toList, List.head?_cons, List.head?_nil, WR_nil2, WR_op, WR_re2, execR_no, execR_val2, execR_skip2, execR_enter2, execR_pan2, putRW_none2, putRW_some2, retRW_ret2, retRW_pan2, fixQ_normal2, fixQ_pan2, rsOf, hb, e2_F, hf10, hf11, neNil2, row1, row2, ground_max, maxO_i, hw1, hw, hmx, hne0, h0, h5, h7, h8, h9]
      refine WX.mono (sc_loop na bs hna m (i + 1) _ S' (by omega) hS' ?_ ?_ ?_ ?_ ?_) (fun r h => h)
      · simp only [T.get_set, Nat.reduceEqDiff, if_false, h0]
      · simp only [T.get_set, Nat.reduceEqDiff, if_false, h5]
      · simp only [T.get_set, Nat.reduceEqDiff, if_false, if_true, hT]
      · simp only [T.get_set, Nat.reduceEqDiff, if_false, if_true, h8, hF]
      · simp only [T.get_set, Nat.reduceEqDiff, if_true]
    | false =>
      rw [hb] at hT hF hr
      have hw1 := wrap_less (n := cntF (bs.take i)) (by omega)
      have hT : cntT (bs.take (i + 1)) = cntT (bs.take i) := hT
      have hF : cntF (bs.take (i + 1)) = cntF (bs.take i) + 1 := hF
      rw [hF] at hmx
      rw [hT, hF] at hr
      simp only [thenW_normal, thenW_exit, thenW_ret, thenW_pan, W_skip, W_region, W_drawn, W_seq, W_cond, W_block, W_loop, W_exit, W_ret, seqQ_normal2, seqQ_exit2, seqQ_ret2, seqQ_pan2, blockW_normal2, blockW_ret2, blockW_pan2, blockW_exit2, WL_nil2, WL_cons, execL_no, execL_val2, execL_skip2, execL_enter2, execL_pan2, putL_none2, putL_some2, retL_ret2, retL_pan2, condW_t2, condW_f2, wantedA, exec1, evalO, initT, T.get_set, T.get_leaf, callA, mapO, ofOpt, ofOptS, ofConst, e2_P, e2_G, partsA, neNil3, finW_ret, finW_pan, giveW, resultsA, tupA, ground_not, notO_bool, fb_lss, fb_leq, fb_gtr, fb_geq, fb_add, fb_eqlI, fb_neqI, Nat.reduceLT, Nat.reduceAdd, Nat.reduceEqDiff, if_true, if_false, reduceIte, true_and, and_true, Option.getD_some, List.getElem?_toArray, List.getElem?_cons_succ, List.getElem?_cons_zero, Option.bind_some, List.nil_append, List.append_nil, beq_self_eq_true, Bool.false_eq_true, Bool.true_eq_false, decide_true, decide_false, Bool.not_true, Bool.not_false, Bool.false_beq, Bool.true_beq, Option.toList, List.head?_cons, List.head?_nil, WR_nil2, WR_op, WR_re2, execR_no, execR_val2, execR_skip2, execR_enter2, execR_pan2, putRW_none2, putRW_some2, retRW_ret2, retRW_pan2, fixQ_normal2, fixQ_pan2, rsOf, hb, e2_F, hf10, hf11, neNil2, row1, row2, ground_max, maxO_i, hw1, hw, hmx, hne0, h0, h5, h7, h8, h9]
      refine WC_known (e2_i11 ..) ?_
      rw [show viaSmall E1 2000 11 3014 [2950, 2949, 3013] [.ptr 2950 0, rowI 1 0 [0]] S = _ from hr]
      simp only [thenW_normal, thenW_exit, thenW_ret, thenW_pan, W_skip, W_region, W_drawn, W_seq, W_cond, W_block, W_loop, W_exit, W_ret, seqQ_normal2, seqQ_exit2, seqQ_ret2, seqQ_pan2, blockW_normal2, blockW_ret2, blockW_pan2, blockW_exit2, WL_nil2, WL_cons, execL_no, execL_val2, execL_skip2, execL_enter2, execL_pan2, putL_none2, putL_some2, retL_ret2, retL_pan2, condW_t2, condW_f2, wantedA, exec1, evalO, initT, T.get_set, T.get_leaf, callA, mapO, ofOpt, ofOptS, ofConst, e2_P, e2_G, partsA, neNil3, finW_ret, finW_pan, giveW, resultsA, tupA, ground_not, notO_bool, fb_lss, fb_leq, fb_gtr, fb_geq, fb_add, fb_eqlI, fb_neqI, Nat.reduceLT, Nat.reduceAdd, Nat.reduceEqDiff, if_true, if_false, reduceIte, true_and, and_true, Option.getD_some, List.getElem?_toArray, List.getElem?_cons_succ, List.getElem?_cons_zero, Option.bind_some, List.nil_append, List.append_nil, beq_self_eq_true, Bool.false_eq_true, Bool.true_eq_false, decide_true, decide_false, Bool.not_true, Bool.not_false, Bool.false_beq, Bool.true_beq, Option.toList, List.head?_cons, List.head?_nil, WR_nil2, WR_op, WR_re2, execR_no, execR_val2, execR_skip2, execR_enter2, execR_pan2, putRW_none2, putRW_some2, retRW_ret2, retRW_pan2, fixQ_normal2, fixQ_pan2, rsOf, hb, e2_F, hf10, hf11, neNil2, row1, row2, ground_max, maxO_i, hw1, hw, hmx, hne0, h0, h5, h7, h8, h9]
      refine WC.mono (same_w 0 0 1 0 [((cntT (bs.take i) : Nat) : Int), ((cntF (bs.take i) + 1 - 1 : Nat) : Int)] (by simp) S') ?_
      rintro _ rfl
      simp only [thenW_normal, thenW_exit, thenW_ret, thenW_pan, W_skip, W_region, W_drawn, W_seq, W_cond, W_block, W_loop, W_exit, W_ret, seqQ_normal2, seqQ_exit2, seqQ_ret2, seqQ_pan2, blockW_normal2, blockW_ret2, blockW_pan2, blockW_exit2, WL_nil2, WL_cons, execL_no, execL_val2, execL_skip2, execL_enter2, execL_pan2, putL_none2, putL_some2, retL_ret2, retL_pan2, condW_t2, condW_f2, wantedA, exec1, evalO, initT, T.get_set, T.get_leaf, callA, mapO, ofOpt, ofOptS, ofConst, e2_P, e2_G, partsA, neNil3, finW_ret, finW_pan, giveW, resultsA, tupA, ground_not, notO_bool, fb_lss, fb_leq, fb_gtr, fb_geq, fb_add, fb_eqlI, fb_neqI, Nat.reduceLT, Nat.reduceAdd, Nat.reduceEqDiff, if_true, if_false, reduceIte, true_and, and_true, Option.getD_some, List.getElem?_toArray, List.getElem?_cons_succ, List.getElem?_cons_zero, Option.bind_some, List.nil_append, List.append_nil, beq_self_eq_true, Bool.false_eq_true, Bool.true_eq_false, decide_true, decide_false, Bool.not_true, Bool.not_false, Bool.false_beq, Bool.true_beq, Option.toList, List.head?_cons, List.head?_nil, WR_nil2, WR_op, WR_re2, execR_no, execR_val2, execR_skip2, execR_enter2, execR_pan2, putRW_none2, putRW_some2, retRW_ret2, retRW_pan2, fixQ_normal2, fixQ_pan2, rsOf, hb, e2_F, hf10, hf11, neNil2, row1, row2, ground_max, maxO_i, hw1, hw, hmx, hne0, h0, h5, h7, h8, h9]
      refine WX.mono (sc_loop na bs hna m (i + 1) _ S' (by omega) hS' ?_ ?_ ?_ ?_ ?_) (fun r h => h)
      · simp only [T.get_set, Nat.reduceEqDiff, if_false, h0]
      · simp only [T.get_set, Nat.reduceEqDiff, if_false, h5]
      · simp only [T.get_set, Nat.reduceEqDiff, if_false, if_true, h7, hT]
      · simp only [T.get_set, Nat.reduceEqDiff, if_false, if_true, hF]
      · simp only [T.get_set, Nat.reduceEqDiff, if_true]
end Go.Ax
