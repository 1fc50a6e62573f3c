/-
  SoloRows: its loop, over any unit that does as it should.
-/
import Derived.Test.YtpjffjgdnendbaaGreatDoorWUj
noncomputable section
namespace Go.Ax
open Go.RowKit Go.Proofs
set_option linter.unusedVariables false
set_option linter.unusedSimpArgs false
set_option maxRecDepth 100000

/-- A row of numbers that comes in. -/
def isRowI (na : AV) (l : List Int) : Prop := (na = .nils ∧ l = []) ∨ na = rowI 0 0 l
theorem len22' (S : St) {na : AV} {l : List Int} (h : isRowI na l) : oLen Tryz.prog S 22 na = some l.length := by
  rcases h with ⟨rfl, rfl⟩ | rfl
  · simp [oLen, u22]
  · exact len22 S 0 0 l
noncomputable def srRest : Code := match Tryz.f3.body with
  | some (.seq _ (.seq _ (.seq _ (.seq _ (.seq _ (.seq _ (.seq _ (.seq _ a)))))))) => a
  | _ => .skip
noncomputable def srBody : Code := match srRest with
  | .seq _ (.seq _ (.seq _ (.seq _ (.seq (.seq _ (.block _ (.loop c))) _)))) => c
  | _ => .skip
theorem srBody_is : (match srBody with | .skip => false | _ => true) = true := by kernel_rfl
/-- What is to come out. -/
def wantD (d i : Nat) (a b : Int) : Int := if i < d then 7 else IntKind.i64.wrap (a + b)
/-- A unit that does as it should, so many instants long. -/
def Does (N obj : Nat) (ids : List Nat) (na : AV) (d : Nat) (a b : Int) (Inv : Nat → St → Prop) : Prop :=
  ∀ i S, i < 12 → Inv i S → ∃ S', viaSmall E1 2000 11 N ids [.ptr obj 0, na] S = .ret (rowI 0 0 [wantD d i a b, a]) S' ∧ Inv (i + 1) S'
set_option maxHeartbeats 8000000 in
theorem sr_loop (N obj : Nat) (ids : List Nat) (na : AV) (d : Nat) (a b : Int) (Inv : Nat → St → Prop) (hdo : Does N obj ids na d a b Inv) : ∀ (m i : Nat) (t : T AV) (S : St), i + m = 12 → Inv i S → t.get 0 = some na → t.get 1 = some (.v (.int .i64 (d : Int))) → t.get 8 = some (.ptr obj 0) → t.get 10 = some (.v (.int .i64 a)) → t.get 11 = some (.v (.int .i64 b)) → t.get 57 = some (.v (.int .i64 (i : Int))) →
    WX (E2 N ids) 75 (.loop srBody) ⟨t, []⟩ S (fun r => ∃ t' S', r = .out (.exit 2) ⟨t', []⟩ S')
  | 0, i, t, S, hi, hS, h0, h1, h8, h10, h11, h57 => by
    refine WX_loop (W_sound ?_)
    have hlt : ¬ ((i : Int) < 12) := by omega
    simp only [thenW_normal, thenW_exit, thenW_ret, thenW_pan, W_skip, W_region, W_drawn, W_seq, W_cond, W_block, W_loop, W_exit, W_ret, seqQ_normal2, seqQ_exit2, seqQ_ret2, seqQ_pan2, blockW_normal2, blockW_ret2, blockW_pan2, blockW_exit2, WL_nil2, WL_cons, execL_no, execL_val2, execL_skip2, execL_enter2, execL_pan2, putL_none2, putL_some2, retL_ret2, retL_pan2, condW_t2, condW_f2, wantedA, exec1, evalO, initT, T.get_set, T.get_leaf, callA, mapO, ofOpt, ofOptS, ofConst, e2_P, e2_G, partsA, neNil3, finW_ret, finW_pan, giveW, resultsA, tupA, ground_not, notO_bool, fb_lss, fb_leq, fb_gtr, fb_geq, fb_add, fb_eqlI, fb_neqI, Nat.reduceLT, Nat.reduceAdd, Nat.reduceEqDiff, if_true, if_false, reduceIte, true_and, and_true, Option.getD_some, List.getElem?_toArray, List.getElem?_cons_succ, List.getElem?_cons_zero, Option.bind_some, List.nil_append, List.append_nil, beq_self_eq_true, Bool.false_eq_true, Bool.true_eq_false, decide_true, decide_false, Bool.not_true, Bool.not_false, Bool.false_beq, Bool.true_beq, Option.toList, List.head?_cons, List.head?_nil, WR_nil2, WR_op, WR_re2, execR_no, execR_val2, execR_skip2, execR_enter2, execR_pan2, putRW_none2, putRW_some2, retRW_ret2, retRW_pan2, fixQ_normal2, fixQ_pan2, rsOf, srBody, srRest, Tryz.f3, h57, hlt]
    exact ⟨_, _, rfl⟩
  | m + 1, i, t, S, hi, hS, h0, h1, h8, h10, h11, h57 => by
    refine WX_loop (W_sound ?_)
    have hlt : ((i : Int) < 12) := by omega
    obtain ⟨fn11, hf11⟩ := f11_some
    obtain ⟨fn10, hf10⟩ := f10_some
    have hw := wrap_one (i := i) (by omega)
    obtain ⟨S', hr, hS'⟩ := hdo i S (by omega) hS
    have hne0 : ((0 : Int) != 0) = false := rfl
    by_cases hd : i < d
    · have hge : ¬ ((i : Int) ≥ (d : Int)) := by omega
      have hwant : wantD d i a b = 7 := by unfold wantD; rw [if_pos hd]
      rw [hwant] at hr
      simp only [thenW_normal, thenW_exit, thenW_ret, thenW_pan, W_skip, W_region, W_drawn, W_seq, W_cond, W_block, W_loop, W_exit, W_ret, seqQ_normal2, seqQ_exit2, seqQ_ret2, seqQ_pan2, blockW_normal2, blockW_ret2, blockW_pan2, blockW_exit2, WL_nil2, WL_cons, execL_no, execL_val2, execL_skip2, execL_enter2, execL_pan2, putL_none2, putL_some2, retL_ret2, retL_pan2, condW_t2, condW_f2, wantedA, exec1, evalO, initT, T.get_set, T.get_leaf, callA, mapO, ofOpt, ofOptS, ofConst, e2_P, e2_G, partsA, neNil3, finW_ret, finW_pan, giveW, resultsA, tupA, ground_not, notO_bool, fb_lss, fb_leq, fb_gtr, fb_geq, fb_add, fb_eqlI, fb_neqI, Nat.reduceLT, Nat.reduceAdd, Nat.reduceEqDiff, if_true, if_false, reduceIte, true_and, and_true, Option.getD_some, List.getElem?_toArray, List.getElem?_cons_succ, List.getElem?_cons_zero, Option.bind_some, List.nil_append, List.append_nil, beq_self_eq_true, Bool.false_eq_true, Bool.true_eq_false, decide_true, decide_false, Bool.not_true, Bool.not_false, Bool.false_beq, Bool.true_beq, Option.toList, List.head?_cons, List.head?_nil, WR_nil2, WR_op, WR_re2, execR_no, execR_val2, execR_skip2, execR_enter2, execR_pan2, putRW_none2, putRW_some2, retRW_ret2, retRW_pan2, fixQ_normal2, fixQ_pan2, rsOf, srBody, srRest, Tryz.f3, h0, h1, h8, h10, h11, h57, hlt, hge, e2_F, hf10, hf11, neNil2, row2, hw, hne0]
      refine WC_known (e2_i11 ..) ?_
      rw [hr]
      simp only [thenW_normal, thenW_exit, thenW_ret, thenW_pan, W_skip, W_region, W_drawn, W_seq, W_cond, W_block, W_loop, W_exit, W_ret, seqQ_normal2, seqQ_exit2, seqQ_ret2, seqQ_pan2, blockW_normal2, blockW_ret2, blockW_pan2, blockW_exit2, WL_nil2, WL_cons, execL_no, execL_val2, execL_skip2, execL_enter2, execL_pan2, putL_none2, putL_some2, retL_ret2, retL_pan2, condW_t2, condW_f2, wantedA, exec1, evalO, initT, T.get_set, T.get_leaf, callA, mapO, ofOpt, ofOptS, ofConst, e2_P, e2_G, partsA, neNil3, finW_ret, finW_pan, giveW, resultsA, tupA, ground_not, notO_bool, fb_lss, fb_leq, fb_gtr, fb_geq, fb_add, fb_eqlI, fb_neqI, Nat.reduceLT, Nat.reduceAdd, Nat.reduceEqDiff, if_true, if_false, reduceIte, true_and, and_true, Option.getD_some, List.getElem?_toArray, List.getElem?_cons_succ, List.getElem?_cons_zero, Option.bind_some, List.nil_append, List.append_nil, beq_self_eq_true, Bool.false_eq_true, Bool.true_eq_false, decide_true, decide_false, Bool.not_true, Bool.not_false, Bool.false_beq, Bool.true_beq, Option.toList, List.head?_cons, List.head?_nil, WR_nil2, WR_op, WR_re2, execR_no, execR_val2, execR_skip2, execR_enter2, execR_pan2, putRW_none2, putRW_some2, retRW_ret2, retRW_pan2, fixQ_normal2, fixQ_pan2, rsOf, srBody, srRest, Tryz.f3, h0, h1, h8, h10, h11, h57, hlt, hge, e2_F, hf10, hf11, neNil2, row2, hw, hne0]
      refine WC.mono (same_w 0 0 1 0 [7, a] (by simp) S') ?_
      rintro _ rfl
      simp only [thenW_normal, thenW_exit, thenW_ret, thenW_pan, W_skip, W_region, W_drawn, W_seq, W_cond, W_block, W_loop, W_exit, W_ret, seqQ_normal2, seqQ_exit2, seqQ_ret2, seqQ_pan2, blockW_normal2, blockW_ret2, blockW_pan2, blockW_exit2, WL_nil2, WL_cons, execL_no, execL_val2, execL_skip2, execL_enter2, execL_pan2, putL_none2, putL_some2, retL_ret2, retL_pan2, condW_t2, condW_f2, wantedA, exec1, evalO, initT, T.get_set, T.get_leaf, callA, mapO, ofOpt, ofOptS, ofConst, e2_P, e2_G, partsA, neNil3, finW_ret, finW_pan, giveW, resultsA, tupA, ground_not, notO_bool, fb_lss, fb_leq, fb_gtr, fb_geq, fb_add, fb_eqlI, fb_neqI, Nat.reduceLT, Nat.reduceAdd, Nat.reduceEqDiff, if_true, if_false, reduceIte, true_and, and_true, Option.getD_some, List.getElem?_toArray, List.getElem?_cons_succ, List.getElem?_cons_zero, Option.bind_some, List.nil_append, List.append_nil, beq_self_eq_true, Bool.false_eq_true, Bool.true_eq_false, decide_true, decide_false, Bool.not_true, Bool.not_false, Bool.false_beq, Bool.true_beq, Option.toList, List.head?_cons, List.head?_nil, WR_nil2, WR_op, WR_re2, execR_no, execR_val2, execR_skip2, execR_enter2, execR_pan2, putRW_none2, putRW_some2, retRW_ret2, retRW_pan2, fixQ_normal2, fixQ_pan2, rsOf, srBody, srRest, Tryz.f3, h0, h1, h8, h10, h11, h57, hlt, hge, e2_F, hf10, hf11, neNil2, row2, hw, hne0]
      refine WX.mono (sr_loop N obj ids na d a b Inv hdo m (i + 1) _ S' (by omega) hS' ?_ ?_ ?_ ?_ ?_ ?_) (fun r h => h)
      · simp only [T.get_set, Nat.reduceEqDiff, if_false, h0]
      · simp only [T.get_set, Nat.reduceEqDiff, if_false, h1]
      · simp only [T.get_set, Nat.reduceEqDiff, if_false, h8]
      · simp only [T.get_set, Nat.reduceEqDiff, if_false, h10]
      · simp only [T.get_set, Nat.reduceEqDiff, if_false, h11]
      · simp only [T.get_set, Nat.reduceEqDiff, if_true]
    · have hge : ((i : Int) ≥ (d : Int)) := by omega
      have hwant : wantD d i a b = IntKind.i64.wrap (a + b) := by unfold wantD; rw [if_neg hd]
      rw [hwant] at hr
      simp only [thenW_normal, thenW_exit, thenW_ret, thenW_pan, W_skip, W_region, W_drawn, W_seq, W_cond, W_block, W_loop, W_exit, W_ret, seqQ_normal2, seqQ_exit2, seqQ_ret2, seqQ_pan2, blockW_normal2, blockW_ret2, blockW_pan2, blockW_exit2, WL_nil2, WL_cons, execL_no, execL_val2, execL_skip2, execL_enter2, execL_pan2, putL_none2, putL_some2, retL_ret2, retL_pan2, condW_t2, condW_f2, wantedA, exec1, evalO, initT, T.get_set, T.get_leaf, callA, mapO, ofOpt, ofOptS, ofConst, e2_P, e2_G, partsA, neNil3, finW_ret, finW_pan, giveW, resultsA, tupA, ground_not, notO_bool, fb_lss, fb_leq, fb_gtr, fb_geq, fb_add, fb_eqlI, fb_neqI, Nat.reduceLT, Nat.reduceAdd, Nat.reduceEqDiff, if_true, if_false, reduceIte, true_and, and_true, Option.getD_some, List.getElem?_toArray, List.getElem?_cons_succ, List.getElem?_cons_zero, Option.bind_some, List.nil_append, List.append_nil, beq_self_eq_true, Bool.false_eq_true, Bool.true_eq_false, decide_true, decide_false, Bool.not_true, Bool.not_false, Bool.false_beq, Bool.true_beq, Option.toList, List.head?_cons, List.head?_nil, WR_nil2, WR_op, WR_re2, execR_no, execR_val2, execR_skip2, execR_enter2, execR_pan2, putRW_none2, putRW_some2, retRW_ret2, retRW_pan2, fixQ_normal2, fixQ_pan2, rsOf, srBody, srRest, Tryz.f3, h0, h1, h8, h10, h11, h57, hlt, hge, e2_F, hf10, hf11, neNil2, row2, hw, hne0]
      refine WC_known (e2_i11 ..) ?_
      rw [hr]
      simp only [thenW_normal, thenW_exit, thenW_ret, thenW_pan, W_skip, W_region, W_drawn, W_seq, W_cond, W_block, W_loop, W_exit, W_ret, seqQ_normal2, seqQ_exit2, seqQ_ret2, seqQ_pan2, blockW_normal2, blockW_ret2, blockW_pan2, blockW_exit2, WL_nil2, WL_cons, execL_no, execL_val2, execL_skip2, execL_enter2, execL_pan2, putL_none2, putL_some2, retL_ret2, retL_pan2, condW_t2, condW_f2, wantedA, exec1, evalO, initT, T.get_set, T.get_leaf, callA, mapO, ofOpt, ofOptS, ofConst, e2_P, e2_G, partsA, neNil3, finW_ret, finW_pan, giveW, resultsA, tupA, ground_not, notO_bool, fb_lss, fb_leq, fb_gtr, fb_geq, fb_add, fb_eqlI, fb_neqI, Nat.reduceLT, Nat.reduceAdd, Nat.reduceEqDiff, if_true, if_false, reduceIte, true_and, and_true, Option.getD_some, List.getElem?_toArray, List.getElem?_cons_succ, List.getElem?_cons_zero, Option.bind_some, List.nil_append, List.append_nil, beq_self_eq_true, Bool.false_eq_true, Bool.true_eq_false, decide_true, decide_false, Bool.not_true, Bool.not_false, Bool.false_beq, Bool.true_beq, Option.toList, List.head?_cons, List.head?_nil, WR_nil2, WR_op, WR_re2, execR_no, execR_val2, execR_skip2, execR_enter2, execR_pan2, putRW_none2, putRW_some2, retRW_ret2, retRW_pan2, fixQ_normal2, fixQ_pan2, rsOf, srBody, srRest, Tryz.f3, h0, h1, h8, h10, h11, h57, hlt, hge, e2_F, hf10, hf11, neNil2, row2, hw, hne0]
      refine WC.mono (same_w 0 0 1 0 [IntKind.i64.wrap (a + b), a] (by simp) S') ?_
      rintro _ rfl
      simp only [thenW_normal, thenW_exit, thenW_ret, thenW_pan, W_skip, W_region, W_drawn, W_seq, W_cond, W_block, W_loop, W_exit, W_ret, seqQ_normal2, seqQ_exit2, seqQ_ret2, seqQ_pan2, blockW_normal2, blockW_ret2, blockW_pan2, blockW_exit2, WL_nil2, WL_cons, execL_no, execL_val2, execL_skip2, execL_enter2, execL_pan2, putL_none2, putL_some2, retL_ret2, retL_pan2, condW_t2, condW_f2, wantedA, exec1, evalO, initT, T.get_set, T.get_leaf, callA, mapO, ofOpt, ofOptS, ofConst, e2_P, e2_G, partsA, neNil3, finW_ret, finW_pan, giveW, resultsA, tupA, ground_not, notO_bool, fb_lss, fb_leq, fb_gtr, fb_geq, fb_add, fb_eqlI, fb_neqI, Nat.reduceLT, Nat.reduceAdd, Nat.reduceEqDiff, if_true, if_false, reduceIte, true_and, and_true, Option.getD_some, List.getElem?_toArray, List.getElem?_cons_succ, List.getElem?_cons_zero, Option.bind_some, List.nil_append, List.append_nil, beq_self_eq_true, Bool.false_eq_true, Bool.true_eq_false, decide_true, decide_false, Bool.not_true, Bool.not_false, Bool.false_beq, Bool.true_beq, Option.toList, List.head?_cons, List.head?_nil, WR_nil2, WR_op, WR_re2, execR_no, execR_val2, execR_skip2, execR_enter2, execR_pan2, putRW_none2, putRW_some2, retRW_ret2, retRW_pan2, fixQ_normal2, fixQ_pan2, rsOf, srBody, srRest, Tryz.f3, h0, h1, h8, h10, h11, h57, hlt, hge, e2_F, hf10, hf11, neNil2, row2, hw, hne0]
      refine WX.mono (sr_loop N obj ids na d a b Inv hdo m (i + 1) _ S' (by omega) hS' ?_ ?_ ?_ ?_ ?_ ?_) (fun r h => h)
      · simp only [T.get_set, Nat.reduceEqDiff, if_false, h0]
      · simp only [T.get_set, Nat.reduceEqDiff, if_false, h1]
      · simp only [T.get_set, Nat.reduceEqDiff, if_false, h8]
      · simp only [T.get_set, Nat.reduceEqDiff, if_false, h10]
      · simp only [T.get_set, Nat.reduceEqDiff, if_false, h11]
      · simp only [T.get_set, Nat.reduceEqDiff, if_true]
def firstI (l : List Int) (i : Nat) : Int := l.getD i 0
theorem firstI_lt {l : List Int} {i : Nat} (h : i < l.length) : firstI l i = l[i] := by simp [firstI, h]
theorem firstI_ge {l : List Int} {i : Nat} (h : ¬ i < l.length) : firstI l i = 0 := by simp [firstI, h]
set_option maxHeartbeats 8000000 in
theorem sr_rest (N obj : Nat) (ids : List Nat) (na : AV) (l : List Int) (hna : isRowI na l) (d : Nat) (Inv : Nat → St → Prop) (hdo : Does N obj ids na d (firstI l 0) (firstI l 1) Inv) (f : T AV) (S : St) (h0 : f.get 0 = some na) (h1 : f.get 1 = some (.v (.int .i64 (d : Int)))) (h8 : f.get 8 = some (.ptr obj 0)) (h9 : f.get 9 = some (.v (.bool true))) (hS : Inv 0 S) :
    W (E2 N ids) 75 srRest ⟨f, []⟩ S (fun r => ∃ f' S', r = .out .ret ⟨f', []⟩ S' ∧ f'.get 4 = some (.v (.bool true))) := by
  have hlen := fun S => len22' S hna
  have fin : ∀ (t : T AV), t.get 0 = some na → t.get 1 = some (.v (.int .i64 (d : Int))) → t.get 8 = some (.ptr obj 0) → t.get 10 = some (.v (.int .i64 (firstI l 0))) → t.get 11 = some (.v (.int .i64 (firstI l 1))) → t.get 57 = some (.v (.int .i64 0)) → WX (E2 N ids) 75 (.loop srBody) ⟨t, []⟩ S (fun r => ∃ t' S', r = .out (.exit 2) ⟨t', []⟩ S') := fun t q0 q1 q8 q10 q11 q57 =>
    sr_loop N obj ids na d _ _ Inv hdo 12 0 t S (by omega) hS q0 q1 q8 q10 q11 q57
  by_cases k0 : 0 < l.length
  · have k0' : ((l.length : Nat) : Int) > 0 := by omega
    have hrow : na = rowI 0 0 l := by
      rcases hna with ⟨_, rfl⟩ | h
      · exact absurd k0 (Nat.lt_irrefl 0)
      · exact h
    have hx0 : oIndexAddr Tryz.prog 22 na (.v (.int .i64 0)) = some (.ep [i64A l[0]]) := by rw [hrow]; exact idx22 0 0 l 0 k0
    have e0 := firstI_lt k0
    by_cases k1 : 1 < l.length
    · have k1' : ((l.length : Nat) : Int) > 1 := by omega
      have hx1 : oIndexAddr Tryz.prog 22 na (.v (.int .i64 1)) = some (.ep [i64A l[1]]) := by rw [hrow]; exact idx22 0 0 l 1 k1
      have e1 := firstI_lt k1
      simp only [thenW_normal, thenW_exit, thenW_ret, thenW_pan, W_skip, W_region, W_drawn, W_seq, W_cond, W_block, W_loop, W_exit, W_ret, seqQ_normal2, seqQ_exit2, seqQ_ret2, seqQ_pan2, blockW_normal2, blockW_ret2, blockW_pan2, blockW_exit2, WL_nil2, WL_cons, execL_no, execL_val2, execL_skip2, execL_enter2, execL_pan2, putL_none2, putL_some2, retL_ret2, retL_pan2, condW_t2, condW_f2, wantedA, exec1, evalO, initT, T.get_set, T.get_leaf, callA, mapO, ofOpt, ofOptS, ofConst, e2_P, e2_G, partsA, neNil3, finW_ret, finW_pan, giveW, resultsA, tupA, ground_not, notO_bool, fb_lss, fb_leq, fb_gtr, fb_geq, fb_add, fb_eqlI, fb_neqI, Nat.reduceLT, Nat.reduceAdd, Nat.reduceEqDiff, if_true, if_false, reduceIte, true_and, and_true, Option.getD_some, List.getElem?_toArray, List.getElem?_cons_succ, List.getElem?_cons_zero, Option.bind_some, List.nil_append, List.append_nil, beq_self_eq_true, Bool.false_eq_true, Bool.true_eq_false, decide_true, decide_false, Bool.not_true, Bool.not_false, Bool.false_beq, Bool.true_beq, Option.toList, List.head?_cons, List.head?_nil, WR_nil2, WR_op, WR_re2, execR_no, execR_val2, execR_skip2, execR_enter2, execR_pan2, putRW_none2, putRW_some2, retRW_ret2, retRW_pan2, fixQ_normal2, fixQ_pan2, rsOf, srRest, Tryz.f3, hlen, h0, h9, k0', k1', ld2, neNil2, hx0, hx1]
      refine WX.mono (fin _ ?_ ?_ ?_ ?_ ?_ ?_) ?_
      · simp only [T.get_set, Nat.reduceEqDiff, if_false, h0]
      · simp only [T.get_set, Nat.reduceEqDiff, if_false, h1]
      · simp only [T.get_set, Nat.reduceEqDiff, if_false, h8]
      · simp only [T.get_set, Nat.reduceEqDiff, if_false, if_true, e0]
      · simp only [T.get_set, Nat.reduceEqDiff, if_false, if_true, e1]
      · simp only [T.get_set, Nat.reduceEqDiff, if_true]
      rintro _ ⟨t', S', rfl⟩
      simp only [thenW_normal, thenW_exit, thenW_ret, thenW_pan, W_skip, W_region, W_drawn, W_seq, W_cond, W_block, W_loop, W_exit, W_ret, seqQ_normal2, seqQ_exit2, seqQ_ret2, seqQ_pan2, blockW_normal2, blockW_ret2, blockW_pan2, blockW_exit2, WL_nil2, WL_cons, execL_no, execL_val2, execL_skip2, execL_enter2, execL_pan2, putL_none2, putL_some2, retL_ret2, retL_pan2, condW_t2, condW_f2, wantedA, exec1, evalO, initT, T.get_set, T.get_leaf, callA, mapO, ofOpt, ofOptS, ofConst, e2_P, e2_G, partsA, neNil3, finW_ret, finW_pan, giveW, resultsA, tupA, ground_not, notO_bool, fb_lss, fb_leq, fb_gtr, fb_geq, fb_add, fb_eqlI, fb_neqI, Nat.reduceLT, Nat.reduceAdd, Nat.reduceEqDiff, if_true, if_false, reduceIte, true_and, and_true, Option.getD_some, List.getElem?_toArray, List.getElem?_cons_succ, List.getElem?_cons_zero, Option.bind_some, List.nil_append, List.append_nil, beq_self_eq_true, Bool.false_eq_true, Bool.true_eq_false, decide_true, decide_false, Bool.not_true, Bool.not_false, Bool.false_beq, Bool.true_beq, Option.toList, List.head?_cons, List.head?_nil, WR_nil2, WR_op, WR_re2, execR_no, execR_val2, execR_skip2, execR_enter2, execR_pan2, putRW_none2, putRW_some2, retRW_ret2, retRW_pan2, fixQ_normal2, fixQ_pan2, rsOf, srRest, Tryz.f3]
      exact ⟨_, _, rfl, by simp only [T.get_set, Nat.reduceEqDiff, if_true]⟩
    · have k1' : ¬ (((l.length : Nat) : Int) > 1) := by omega
      have e1 := firstI_ge k1
      simp only [thenW_normal, thenW_exit, thenW_ret, thenW_pan, W_skip, W_region, W_drawn, W_seq, W_cond, W_block, W_loop, W_exit, W_ret, seqQ_normal2, seqQ_exit2, seqQ_ret2, seqQ_pan2, blockW_normal2, blockW_ret2, blockW_pan2, blockW_exit2, WL_nil2, WL_cons, execL_no, execL_val2, execL_skip2, execL_enter2, execL_pan2, putL_none2, putL_some2, retL_ret2, retL_pan2, condW_t2, condW_f2, wantedA, exec1, evalO, initT, T.get_set, T.get_leaf, callA, mapO, ofOpt, ofOptS, ofConst, e2_P, e2_G, partsA, neNil3, finW_ret, finW_pan, giveW, resultsA, tupA, ground_not, notO_bool, fb_lss, fb_leq, fb_gtr, fb_geq, fb_add, fb_eqlI, fb_neqI, Nat.reduceLT, Nat.reduceAdd, Nat.reduceEqDiff, if_true, if_false, reduceIte, true_and, and_true, Option.getD_some, List.getElem?_toArray, List.getElem?_cons_succ, List.getElem?_cons_zero, Option.bind_some, List.nil_append, List.append_nil, beq_self_eq_true, Bool.false_eq_true, Bool.true_eq_false, decide_true, decide_false, Bool.not_true, Bool.not_false, Bool.false_beq, Bool.true_beq, Option.toList, List.head?_cons, List.head?_nil, WR_nil2, WR_op, WR_re2, execR_no, execR_val2, execR_skip2, execR_enter2, execR_pan2, putRW_none2, putRW_some2, retRW_ret2, retRW_pan2, fixQ_normal2, fixQ_pan2, rsOf, srRest, Tryz.f3, hlen, h0, h9, k0', k1', ld2, neNil2, hx0]
      refine WX.mono (fin _ ?_ ?_ ?_ ?_ ?_ ?_) ?_
      · simp only [T.get_set, Nat.reduceEqDiff, if_false, h0]
      · simp only [T.get_set, Nat.reduceEqDiff, if_false, h1]
      · simp only [T.get_set, Nat.reduceEqDiff, if_false, h8]
      · simp only [T.get_set, Nat.reduceEqDiff, if_false, if_true, e0]
      · simp only [T.get_set, Nat.reduceEqDiff, if_false, if_true, e1]
      · simp only [T.get_set, Nat.reduceEqDiff, if_true]
      rintro _ ⟨t', S', rfl⟩
      simp only [thenW_normal, thenW_exit, thenW_ret, thenW_pan, W_skip, W_region, W_drawn, W_seq, W_cond, W_block, W_loop, W_exit, W_ret, seqQ_normal2, seqQ_exit2, seqQ_ret2, seqQ_pan2, blockW_normal2, blockW_ret2, blockW_pan2, blockW_exit2, WL_nil2, WL_cons, execL_no, execL_val2, execL_skip2, execL_enter2, execL_pan2, putL_none2, putL_some2, retL_ret2, retL_pan2, condW_t2, condW_f2, wantedA, exec1, evalO, initT, T.get_set, T.get_leaf, callA, mapO, ofOpt, ofOptS, ofConst, e2_P, e2_G, partsA, neNil3, finW_ret, finW_pan, giveW, resultsA, tupA, ground_not, notO_bool, fb_lss, fb_leq, fb_gtr, fb_geq, fb_add, fb_eqlI, fb_neqI, Nat.reduceLT, Nat.reduceAdd, Nat.reduceEqDiff, if_true, if_false, reduceIte, true_and, and_true, Option.getD_some, List.getElem?_toArray, List.getElem?_cons_succ, List.getElem?_cons_zero, Option.bind_some, List.nil_append, List.append_nil, beq_self_eq_true, Bool.false_eq_true, Bool.true_eq_false, decide_true, decide_false, Bool.not_true, Bool.not_false, Bool.false_beq, Bool.true_beq, Option.toList, List.head?_cons, List.head?_nil, WR_nil2, WR_op, WR_re2, execR_no, execR_val2, execR_skip2, execR_enter2, execR_pan2, putRW_none2, putRW_some2, retRW_ret2, retRW_pan2, fixQ_normal2, fixQ_pan2, rsOf, srRest, Tryz.f3]
      exact ⟨_, _, rfl, by simp only [T.get_set, Nat.reduceEqDiff, if_true]⟩
  · have k0' : ¬ (((l.length : Nat) : Int) > 0) := by omega
    have k1' : ¬ (((l.length : Nat) : Int) > 1) := by omega
    have e0 := firstI_ge k0
    have e1 := firstI_ge (l := l) (i := 1) (by omega)
    simp only [thenW_normal, thenW_exit, thenW_ret, thenW_pan, W_skip, W_region, W_drawn, W_seq, W_cond, W_block, W_loop, W_exit, W_ret, seqQ_normal2, seqQ_exit2, seqQ_ret2, seqQ_pan2, blockW_normal2, blockW_ret2, blockW_pan2, blockW_exit2, WL_nil2, WL_cons, execL_no, execL_val2, execL_skip2, execL_enter2, execL_pan2, putL_none2, putL_some2, retL_ret2, retL_pan2, condW_t2, condW_f2, wantedA, exec1, evalO, initT, T.get_set, T.get_leaf, callA, mapO, ofOpt, ofOptS, ofConst, e2_P, e2_G, partsA, neNil3, finW_ret, finW_pan, giveW, resultsA, tupA, ground_not, notO_bool, fb_lss, fb_leq, fb_gtr, fb_geq, fb_add, fb_eqlI, fb_neqI, Nat.reduceLT, Nat.reduceAdd, Nat.reduceEqDiff, if_true, if_false, reduceIte, true_and, and_true, Option.getD_some, List.getElem?_toArray, List.getElem?_cons_succ, List.getElem?_cons_zero, Option.bind_some, List.nil_append, List.append_nil, beq_self_eq_true, Bool.false_eq_true, Bool.true_eq_false, decide_true, decide_false, Bool.not_true, Bool.not_false, Bool.false_beq, Bool.true_beq, Option.toList, List.head?_cons, List.head?_nil, WR_nil2, WR_op, WR_re2, execR_no, execR_val2, execR_skip2, execR_enter2, execR_pan2, putRW_none2, putRW_some2, retRW_ret2, retRW_pan2, fixQ_normal2, fixQ_pan2, rsOf, srRest, Tryz.f3, hlen, h0, h9, k0', k1', ld2, neNil2]
    refine WX.mono (fin _ ?_ ?_ ?_ ?_ ?_ ?_) ?_
    · simp only [T.get_set, Nat.reduceEqDiff, if_false, h0]
    · simp only [T.get_set, Nat.reduceEqDiff, if_false, h1]
    · simp only [T.get_set, Nat.reduceEqDiff, if_false, h8]
    · simp only [T.get_set, Nat.reduceEqDiff, if_false, if_true, e0]
    · simp only [T.get_set, Nat.reduceEqDiff, if_false, if_true, e1]
    · simp only [T.get_set, Nat.reduceEqDiff, if_true]
    rintro _ ⟨t', S', rfl⟩
    simp only [thenW_normal, thenW_exit, thenW_ret, thenW_pan, W_skip, W_region, W_drawn, W_seq, W_cond, W_block, W_loop, W_exit, W_ret, seqQ_normal2, seqQ_exit2, seqQ_ret2, seqQ_pan2, blockW_normal2, blockW_ret2, blockW_pan2, blockW_exit2, WL_nil2, WL_cons, execL_no, execL_val2, execL_skip2, execL_enter2, execL_pan2, putL_none2, putL_some2, retL_ret2, retL_pan2, condW_t2, condW_f2, wantedA, exec1, evalO, initT, T.get_set, T.get_leaf, callA, mapO, ofOpt, ofOptS, ofConst, e2_P, e2_G, partsA, neNil3, finW_ret, finW_pan, giveW, resultsA, tupA, ground_not, notO_bool, fb_lss, fb_leq, fb_gtr, fb_geq, fb_add, fb_eqlI, fb_neqI, Nat.reduceLT, Nat.reduceAdd, Nat.reduceEqDiff, if_true, if_false, reduceIte, true_and, and_true, Option.getD_some, List.getElem?_toArray, List.getElem?_cons_succ, List.getElem?_cons_zero, Option.bind_some, List.nil_append, List.append_nil, beq_self_eq_true, Bool.false_eq_true, Bool.true_eq_false, decide_true, decide_false, Bool.not_true, Bool.not_false, Bool.false_beq, Bool.true_beq, Option.toList, List.head?_cons, List.head?_nil, WR_nil2, WR_op, WR_re2, execR_no, execR_val2, execR_skip2, execR_enter2, execR_pan2, putRW_none2, putRW_some2, retRW_ret2, retRW_pan2, fixQ_normal2, fixQ_pan2, rsOf, srRest, Tryz.f3]
    exact ⟨_, _, rfl, by simp only [T.get_set, Nat.reduceEqDiff, if_true]⟩
end Go.Ax
