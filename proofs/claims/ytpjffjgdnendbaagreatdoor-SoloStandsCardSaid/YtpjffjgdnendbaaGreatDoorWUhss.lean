/-
  SoloStands: its loop, piece by piece.
-/
import Derived.Test.YtpjffjgdnendbaaGreatDoorWUgss
import Derived.Test.YtpjffjgdnendbaaGreatDoorWUw
import Derived.Test.YtpjffjgdnendbaaGreatDoorWUj
noncomputable section
namespace Go.Ax
open Go.RowKit Go.Proofs
set_option linter.unusedVariables false
set_option linter.unusedSimpArgs false
set_option maxRecDepth 100000

noncomputable def ssC5 : Code := match ssRest with
  | .seq a _ => a
  | _ => .skip
noncomputable def ssR7 : Code := match ssRest with
  | .seq _ (.seq (.seq a _) _) => a
  | _ => .skip
noncomputable def ssC : Code := match ssRest with
  | .seq _ (.seq (.seq _ (.block _ (.loop c))) _) => c
  | _ => .skip
noncomputable def ssEnd : Code := match ssRest with
  | .seq _ (.seq _ e) => e
  | _ => .skip
theorem ssRest_eq : ssRest = .seq ssC5 (.seq (.seq ssR7 (.block 0 (.loop ssC))) ssEnd) := by kernel_rfl
noncomputable def ssA : Code := match ssC with
  | .seq a _ => a
  | _ => .skip
noncomputable def ss10 : Code := match ssC with
  | .seq _ (.seq (.block _ (.seq a _)) _) => a
  | _ => .skip
noncomputable def ss11 : Array Oper := match ssC with
  | .seq _ (.seq (.block _ (.seq _ (.seq (.region _ a _) _))) _) => a
  | _ => #[]
noncomputable def ssY : Code := match ssC with
  | .seq _ (.seq (.block _ (.seq _ (.seq _ a))) _) => a
  | _ => .skip
noncomputable def ss9 : Code := match ssC with
  | .seq _ (.seq _ a) => a
  | _ => .skip
theorem ssC_eq : ssC = .seq ssA (.seq (.block 1 (.seq ss10 (.seq (.region 11 ss11 false) ssY))) ss9) := by kernel_rfl
theorem fb_mul (k : IntKind) (x y : Int) : fastBin .mul (.v (.int k x)) (.v (.int k y)) = some (.v (.int k (k.wrap (x * y)))) := by simp [fastBin]
theorem fb_sub (k : IntKind) (x y : Int) : fastBin .sub (.v (.int k x)) (.v (.int k y)) = some (.v (.int k (k.wrap (x - y)))) := by simp [fastBin]
structure Fs (f : T AV) (na : AV) (i : Nat) : Prop where
  g0 : f.get 0 = some na
  g5 : f.get 5 = some (.ptr 2300 0)
  g7 : f.get 7 = some (.v (.int .i64 (i : Int)))
theorem wA (na : AV) (bs : List Bool) (hna : isRowB na bs) (i : Nat) (f : T AV) (S : St) (h : Fs f na i) : W (E2 2363 [2300, 2299, 2362]) 59 ssA ⟨f, []⟩ S (fun r => (i < bs.length ∧ i < 40 ∧ ∃ f', r = .out .normal ⟨f', []⟩ S ∧ Fs f' na i) ∨ (∃ f', r = .out (.exit 0) ⟨f', []⟩ S)) := by
  obtain ⟨h0, h5, h7⟩ := h
  have hlen := fun S => len36 S hna
  by_cases hlt : (i : Int) < (bs.length : Int)
  · by_cases h40 : (i : Int) < 40
    · simp only [thenW_normal, thenW_exit, thenW_ret, thenW_pan, W_skip, W_region, W_drawn, W_seq, W_cond, W_block, W_loop, W_exit, W_ret, seqQ_normal2, seqQ_exit2, seqQ_ret2, seqQ_pan2, blockW_normal2, blockW_ret2, blockW_pan2, blockW_exit2, WL_nil2, WL_cons, execL_no, execL_val2, execL_skip2, execL_enter2, execL_pan2, putL_none2, putL_some2, retL_ret2, retL_pan2, condW_t2, condW_f2, wantedA, exec1, evalO, initT, T.get_set, T.get_leaf, callA, mapO, ofOpt, ofOptS, ofConst, e2_P, e2_G, partsA, neNil3, finW_ret, finW_pan, giveW, resultsA, tupA, ground_not, notO_bool, fb_lss, fb_leq, fb_gtr, fb_geq, fb_add, fb_eqlI, fb_neqI, Nat.reduceLT, Nat.reduceAdd, Nat.reduceEqDiff, if_true, if_false, reduceIte, true_and, and_true, Option.getD_some, List.getElem?_toArray, List.getElem?_cons_succ, List.getElem?_cons_zero, Option.bind_some, List.nil_append, List.append_nil, beq_self_eq_true, Bool.false_eq_true, Bool.true_eq_false, decide_true, decide_false, Bool.not_true, Bool.not_false, Bool.false_beq, Bool.true_beq, Option.toList, List.head?_cons, List.head?_nil, WR_nil2, WR_op, WR_re2, execR_no, execR_val2, execR_skip2, execR_enter2, execR_pan2, putRW_none2, putRW_some2, retRW_ret2, retRW_pan2, fixQ_normal2, fixQ_pan2, rsOf, ssA, ssC, ssRest, Tryz.f5, hlen, h0, h7, hlt, h40]
      exact .inl ⟨by omega, by omega, _, rfl, by simp only [T.get_set, Nat.reduceEqDiff, if_false, h0], by simp only [T.get_set, Nat.reduceEqDiff, if_false, h5], by simp only [T.get_set, Nat.reduceEqDiff, if_false, h7]⟩
    · simp only [thenW_normal, thenW_exit, thenW_ret, thenW_pan, W_skip, W_region, W_drawn, W_seq, W_cond, W_block, W_loop, W_exit, W_ret, seqQ_normal2, seqQ_exit2, seqQ_ret2, seqQ_pan2, blockW_normal2, blockW_ret2, blockW_pan2, blockW_exit2, WL_nil2, WL_cons, execL_no, execL_val2, execL_skip2, execL_enter2, execL_pan2, putL_none2, putL_some2, retL_ret2, retL_pan2, condW_t2, condW_f2, wantedA, exec1, evalO, initT, T.get_set, T.get_leaf, callA, mapO, ofOpt, ofOptS, ofConst, e2_P, e2_G, partsA, neNil3, finW_ret, finW_pan, giveW, resultsA, tupA, ground_not, notO_bool, fb_lss, fb_leq, fb_gtr, fb_geq, fb_add, fb_eqlI, fb_neqI, Nat.reduceLT, Nat.reduceAdd, Nat.reduceEqDiff, if_true, if_false, reduceIte, true_and, and_true, Option.getD_some, List.getElem?_toArray, List.getElem?_cons_succ, List.getElem?_cons_zero, Option.bind_some, List.nil_append, List.append_nil, beq_self_eq_true, Bool.false_eq_true, Bool.true_eq_false, decide_true, decide_false, Bool.not_true, Bool.not_false, Bool.false_beq, Bool.true_beq, Option.toList, List.head?_cons, List.head?_nil, WR_nil2, WR_op, WR_re2, execR_no, execR_val2, execR_skip2, execR_enter2, execR_pan2, putRW_none2, putRW_some2, retRW_ret2, retRW_pan2, fixQ_normal2, fixQ_pan2, rsOf, ssA, ssC, ssRest, Tryz.f5, hlen, h0, h7, hlt, h40]
      exact .inr ⟨_, rfl⟩
  · simp only [thenW_normal, thenW_exit, thenW_ret, thenW_pan, W_skip, W_region, W_drawn, W_seq, W_cond, W_block, W_loop, W_exit, W_ret, seqQ_normal2, seqQ_exit2, seqQ_ret2, seqQ_pan2, blockW_normal2, blockW_ret2, blockW_pan2, blockW_exit2, WL_nil2, WL_cons, execL_no, execL_val2, execL_skip2, execL_enter2, execL_pan2, putL_none2, putL_some2, retL_ret2, retL_pan2, condW_t2, condW_f2, wantedA, exec1, evalO, initT, T.get_set, T.get_leaf, callA, mapO, ofOpt, ofOptS, ofConst, e2_P, e2_G, partsA, neNil3, finW_ret, finW_pan, giveW, resultsA, tupA, ground_not, notO_bool, fb_lss, fb_leq, fb_gtr, fb_geq, fb_add, fb_eqlI, fb_neqI, Nat.reduceLT, Nat.reduceAdd, Nat.reduceEqDiff, if_true, if_false, reduceIte, true_and, and_true, Option.getD_some, List.getElem?_toArray, List.getElem?_cons_succ, List.getElem?_cons_zero, Option.bind_some, List.nil_append, List.append_nil, beq_self_eq_true, Bool.false_eq_true, Bool.true_eq_false, decide_true, decide_false, Bool.not_true, Bool.not_false, Bool.false_beq, Bool.true_beq, Option.toList, List.head?_cons, List.head?_nil, WR_nil2, WR_op, WR_re2, execR_no, execR_val2, execR_skip2, execR_enter2, execR_pan2, putRW_none2, putRW_some2, retRW_ret2, retRW_pan2, fixQ_normal2, fixQ_pan2, rsOf, ssA, ssC, ssRest, Tryz.f5, hlen, h0, h7, hlt]
    exact .inr ⟨_, rfl⟩
theorem w10 (na : AV) (i : Nat) (hi : i ≤ 1000) (f : T AV) (S : St) (h : Fs f na i) : W (E2 2363 [2300, 2299, 2362]) 59 ss10 ⟨f, []⟩ S (fun r => ∃ f', r = .out .normal ⟨f', []⟩ S ∧ Fs f' na i ∧ f'.get 8 = some (.v (.int .i64 ((i + 1 : Nat) : Int)))) := by
  obtain ⟨h0, h5, h7⟩ := h
  have hw := wrap_one (i := i) (by omega)
  simp only [thenW_normal, thenW_exit, thenW_ret, thenW_pan, W_skip, W_region, W_drawn, W_seq, W_cond, W_block, W_loop, W_exit, W_ret, seqQ_normal2, seqQ_exit2, seqQ_ret2, seqQ_pan2, blockW_normal2, blockW_ret2, blockW_pan2, blockW_exit2, WL_nil2, WL_cons, execL_no, execL_val2, execL_skip2, execL_enter2, execL_pan2, putL_none2, putL_some2, retL_ret2, retL_pan2, condW_t2, condW_f2, wantedA, exec1, evalO, initT, T.get_set, T.get_leaf, callA, mapO, ofOpt, ofOptS, ofConst, e2_P, e2_G, partsA, neNil3, finW_ret, finW_pan, giveW, resultsA, tupA, ground_not, notO_bool, fb_lss, fb_leq, fb_gtr, fb_geq, fb_add, fb_eqlI, fb_neqI, Nat.reduceLT, Nat.reduceAdd, Nat.reduceEqDiff, if_true, if_false, reduceIte, true_and, and_true, Option.getD_some, List.getElem?_toArray, List.getElem?_cons_succ, List.getElem?_cons_zero, Option.bind_some, List.nil_append, List.append_nil, beq_self_eq_true, Bool.false_eq_true, Bool.true_eq_false, decide_true, decide_false, Bool.not_true, Bool.not_false, Bool.false_beq, Bool.true_beq, Option.toList, List.head?_cons, List.head?_nil, WR_nil2, WR_op, WR_re2, execR_no, execR_val2, execR_skip2, execR_enter2, execR_pan2, putRW_none2, putRW_some2, retRW_ret2, retRW_pan2, fixQ_normal2, fixQ_pan2, rsOf, ss10, ssC, ssRest, Tryz.f5, h7, hw]
  exact ⟨_, rfl, ⟨by simp only [T.get_set, Nat.reduceEqDiff, if_false, h0], by simp only [T.get_set, Nat.reduceEqDiff, if_false, h5], by simp only [T.get_set, Nat.reduceEqDiff, if_false, h7]⟩, by simp only [T.get_set, Nat.reduceEqDiff, if_true]⟩
theorem w9 (na : AV) (i : Nat) (hi : i ≤ 1000) (f : T AV) (S : St) (h : Fs f na i) : W (E2 2363 [2300, 2299, 2362]) 59 ss9 ⟨f, []⟩ S (fun r => ∃ f', r = .out .normal ⟨f', []⟩ S ∧ Fs f' na (i + 1)) := by
  obtain ⟨h0, h5, h7⟩ := h
  have hw := wrap_one (i := i) (by omega)
  simp only [thenW_normal, thenW_exit, thenW_ret, thenW_pan, W_skip, W_region, W_drawn, W_seq, W_cond, W_block, W_loop, W_exit, W_ret, seqQ_normal2, seqQ_exit2, seqQ_ret2, seqQ_pan2, blockW_normal2, blockW_ret2, blockW_pan2, blockW_exit2, WL_nil2, WL_cons, execL_no, execL_val2, execL_skip2, execL_enter2, execL_pan2, putL_none2, putL_some2, retL_ret2, retL_pan2, condW_t2, condW_f2, wantedA, exec1, evalO, initT, T.get_set, T.get_leaf, callA, mapO, ofOpt, ofOptS, ofConst, e2_P, e2_G, partsA, neNil3, finW_ret, finW_pan, giveW, resultsA, tupA, ground_not, notO_bool, fb_lss, fb_leq, fb_gtr, fb_geq, fb_add, fb_eqlI, fb_neqI, Nat.reduceLT, Nat.reduceAdd, Nat.reduceEqDiff, if_true, if_false, reduceIte, true_and, and_true, Option.getD_some, List.getElem?_toArray, List.getElem?_cons_succ, List.getElem?_cons_zero, Option.bind_some, List.nil_append, List.append_nil, beq_self_eq_true, Bool.false_eq_true, Bool.true_eq_false, decide_true, decide_false, Bool.not_true, Bool.not_false, Bool.false_beq, Bool.true_beq, Option.toList, List.head?_cons, List.head?_nil, WR_nil2, WR_op, WR_re2, execR_no, execR_val2, execR_skip2, execR_enter2, execR_pan2, putRW_none2, putRW_some2, retRW_ret2, retRW_pan2, fixQ_normal2, fixQ_pan2, rsOf, ss9, ssC, ssRest, Tryz.f5, h7, hw, neNil3]
  exact ⟨_, rfl, by simp only [T.get_set, Nat.reduceEqDiff, if_false, h0], by simp only [T.get_set, Nat.reduceEqDiff, if_false, h5], by simp only [T.get_set, Nat.reduceEqDiff, if_true]⟩
theorem box2 (S : St) (a b : Int) : oBuildBox Tryz.prog S 22 2 [(0, .v (.int .i64 a)), (1, .v (.int .i64 b))] = some (.bs S.next 0 2 1, S.newBox [i64A a, i64A b]) := by kernel_rfl
theorem b11 (na : AV) (i : Nat) (hi : i ≤ 1000) (f : T AV) (S : St) (h : Fs f na i) (h8 : f.get 8 = some (.v (.int .i64 ((i + 1 : Nat) : Int)))) : ∃ f', runLB (E2 2363 [2300, 2299, 2362]) (fun _ _ _ => .fail) 59 ss11 ss11.toList ⟨f, []⟩ S = .out .normal ⟨f', []⟩ (S.newBox [i64A ((2 * (i + 1) : Nat) : Int), i64A ((3 * i : Nat) : Int)]) ∧ Fs f' na i ∧ f'.get 8 = some (.v (.int .i64 ((i + 1 : Nat) : Int))) ∧ f'.get 9 = some (.v (.int .i64 0)) ∧ f'.get 10 = some (.bs S.next 0 2 1) := by
  obtain ⟨h0, h5, h7⟩ := h
  have w1 : IntKind.i64.wrap (2 * ((i + 1 : Nat) : Int)) = ((2 * (i + 1) : Nat) : Int) := by
    have e : 2 * ((i + 1 : Nat) : Int) = ((2 * (i + 1) : Nat) : Int) := by push_cast; omega
    rw [e]; exact wrap_nat (by omega)
  have w2 : IntKind.i64.wrap (((i + 1 : Nat) : Int) - 1) = (i : Int) := by
    have e : ((i + 1 : Nat) : Int) - 1 = (i : Int) := by push_cast; omega
    rw [e]; exact wrap_nat (by omega)
  have w3 : IntKind.i64.wrap (3 * (i : Int)) = ((3 * i : Nat) : Int) := by
    have e : 3 * (i : Int) = ((3 * i : Nat) : Int) := by push_cast; omega
    rw [e]; exact wrap_nat (by omega)
  simp only [thenW_normal, thenW_exit, thenW_ret, thenW_pan, W_skip, W_region, W_drawn, W_seq, W_cond, W_block, W_loop, W_exit, W_ret, seqQ_normal2, seqQ_exit2, seqQ_ret2, seqQ_pan2, blockW_normal2, blockW_ret2, blockW_pan2, blockW_exit2, WL_nil2, WL_cons, execL_no, execL_val2, execL_skip2, execL_enter2, execL_pan2, putL_none2, putL_some2, retL_ret2, retL_pan2, condW_t2, condW_f2, wantedA, exec1, evalO, initT, T.get_set, T.get_leaf, callA, mapO, ofOpt, ofOptS, ofConst, e2_P, e2_G, partsA, neNil3, finW_ret, finW_pan, giveW, resultsA, tupA, ground_not, notO_bool, fb_lss, fb_leq, fb_gtr, fb_geq, fb_add, fb_eqlI, fb_neqI, Nat.reduceLT, Nat.reduceAdd, Nat.reduceEqDiff, if_true, if_false, reduceIte, true_and, and_true, Option.getD_some, List.getElem?_toArray, List.getElem?_cons_succ, List.getElem?_cons_zero, Option.bind_some, List.nil_append, List.append_nil, beq_self_eq_true, Bool.false_eq_true, Bool.true_eq_false, decide_true, decide_false, Bool.not_true, Bool.not_false, Bool.false_beq, Bool.true_beq, Option.toList, List.head?_cons, List.head?_nil, WR_nil2, WR_op, WR_re2, execR_no, execR_val2, execR_skip2, execR_enter2, execR_pan2, putRW_none2, putRW_some2, retRW_ret2, retRW_pan2, fixQ_normal2, fixQ_pan2, rsOf, ss11, ssC, ssRest, Tryz.f5, runLB, stepOB, exec1B, putA, h7, h8, fb_mul, fb_sub, neNil2, w1, w2, w3, box2]
  exact ⟨_, rfl, ⟨by simp only [T.get_set, Nat.reduceEqDiff, if_false, h0], by simp only [T.get_set, Nat.reduceEqDiff, if_false, h5], by simp only [T.get_set, Nat.reduceEqDiff, if_false, h7]⟩, by simp only [T.get_set, Nat.reduceEqDiff, if_false, h8], by simp only [T.get_set, Nat.reduceEqDiff, if_true, if_false], by simp only [T.get_set, Nat.reduceEqDiff, if_true, if_false]⟩
end Go.Ax
