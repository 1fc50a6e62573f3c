/-
  The surroundings in which an instant of a unit is known; rows of numbers that are the same.
-/
import Derived.Test.YtpjffjgdnendbaaGreatDoorWUb
noncomputable section
namespace Go.Ax
open Go.RowKit Go.Proofs
set_option linter.unusedVariables false
set_option linter.unusedSimpArgs false
set_option maxRecDepth 100000

/-- An instant of a unit (11) is run where there are its boxes alone. -/
def E2 (N : Nat) (ids : List Nat) : Env := { P := Tryz.prog, G := fun _ => none, F := E1.F, I := fun k => Bool.rec (E1.I k) (some (viaSmall E1 2000 11 N ids)) (Nat.beq k 11), M := rowM }
theorem e2_P (N : Nat) (ids : List Nat) : (E2 N ids).P = Tryz.prog := _root_.id rfl
theorem e2_G (N : Nat) (ids : List Nat) : (E2 N ids).G = fun _ => none := _root_.id rfl
theorem e2_ok (N : Nat) (ids : List Nat) : (E2 N ids).Ok := ⟨fun k fn h => e1_ok.fn k fn h⟩
theorem e2_mix (N : Nat) (ids : List Nat) : (E2 N ids).P.follows .mixedOrders = true := e1_mix
theorem e2_intr (N : Nat) (ids : List Nat) : IntrOk (E2 N ids) := fun k g hk base w0 args S hne γ w vs hS hg hv => by
  have hk2 : (Bool.rec (E1.I k) (some (viaSmall E1 2000 11 N ids)) (Nat.beq k 11) : Option (List AV → St → R)) = some g := hk
  cases hb : Nat.beq k 11 with
  | false =>
    rw [hb] at hk2
    exact e1_intr k g hk2 base w0 args S hne γ w vs hS hg hv
  | true =>
    rw [hb] at hk2
    injection hk2 with hk2; subst hk2
    have : k = 11 := Nat.eq_of_beq_eq_true hb
    subst this
    exact viaSmall_ok e1_ok e1_intr e1_mix rfl (by kernel_rfl) ids base w0 args S hne γ w vs hS hv
def i64A (x : Int) : AV := .v (.int .i64 x)
def rowI (tok off : Nat) (l : List Int) : AV := .sl tok off 1 (l.map i64A)
theorem u22 : Tryz.prog.underlying 22 = some (.slice 2) := by kernel_rfl
theorem e22 : elemT Tryz.prog 22 = some (none, 2) := by kernel_rfl
theorem s2 : sizeT Tryz.prog 2 = some 1 := by kernel_rfl
theorem a2 : isAggT Tryz.prog 2 = some false := by kernel_rfl
theorem neNil2 (a b : AV) : neNil Tryz.prog 2 a b = false := by
  have h : Tryz.prog.underlying 2 = some (.int .i64) := by kernel_rfl
  unfold neNil; rw [h]
theorem len22 (S : St) (tok off : Nat) (l : List Int) : oLen Tryz.prog S 22 (rowI tok off l) = some l.length := by simp [oLen, u22, rowI]
theorem flat_i64 : ∀ l : List Int, flat (l.map i64A) = l.map i64A
  | [] => rfl
  | x :: r => by
    have := flat_i64 r
    unfold flat at this ⊢
    rw [List.map_cons, List.flatMap_cons, this]; rfl
theorem idx22 (tok off : Nat) (l : List Int) (i : Nat) (h : i < l.length) : oIndexAddr Tryz.prog 22 (rowI tok off l) (.v (.int .i64 (i : Int))) = some (.ep [i64A l[i]]) := by
  have h0 : (0 : Int) ≤ (i : Int) := by omega
  simp [oIndexAddr, rowI, h0, e22, s2, h, i64A, AV.cells]
theorem ld2 (S : St) (x : Int) : oLoad Tryz.prog S 2 (.ep [i64A x]) = some (.v (.int .i64 x)) := by simp [oLoad, behind, a2, i64A]
noncomputable def sameBody : Code := match Tryz.f10.body with
  | some (.seq _ (.seq _ (.seq (.seq _ (.block _ (.loop c))) _))) => c
  | _ => .skip
theorem sameBody_is : (match sameBody with | .skip => false | _ => true) = true := by kernel_rfl
section
variable {N : Nat} {ids : List Nat}
set_option maxHeartbeats 4000000 in
theorem same_loop (t1 o1 t2 o2 : Nat) (l : List Int) (hl : l.length ≤ 1000) (S : St) : ∀ (m i : Nat) (t : T AV), i + m = l.length → t.get 0 = some (rowI t1 o1 l) → t.get 1 = some (rowI t2 o2 l) → t.get 12 = some (intA l.length) → t.get 13 = some (intA i) →
    WX (E2 N ids) 26 (.loop sameBody) ⟨t, []⟩ S (fun r => ∃ t', r = .out (.exit 0) ⟨t', []⟩ S)
  | 0, i, t, hi, h0, h1, h12, h13 => by
    refine WX_loop (W_sound ?_)
    have hlt : ¬ ((i : Int) < (l.length : Int)) := by omega
    simp only [intA] at h12 h13
    simp only [thenW_normal, thenW_exit, thenW_ret, thenW_pan, W_skip, W_region, W_drawn, W_seq, W_cond, W_block, W_loop, W_exit, W_ret, seqQ_normal2, seqQ_exit2, seqQ_ret2, seqQ_pan2, blockW_normal2, blockW_ret2, blockW_pan2, blockW_exit2, WL_nil2, WL_cons, execL_no, execL_val2, execL_skip2, execL_enter2, execL_pan2, putL_none2, putL_some2, retL_ret2, retL_pan2, condW_t2, condW_f2, wantedA, exec1, evalO, initT, T.get_set, T.get_leaf, callA, mapO, ofOpt, ofOptS, ofConst, e2_P, e2_G, partsA, neNil3, finW_ret, finW_pan, giveW, resultsA, tupA, ground_not, notO_bool, fb_lss, fb_leq, fb_gtr, fb_geq, fb_add, fb_eqlI, fb_neqI, Nat.reduceLT, Nat.reduceAdd, Nat.reduceEqDiff, if_true, if_false, reduceIte, true_and, and_true, Option.getD_some, List.getElem?_toArray, List.getElem?_cons_succ, List.getElem?_cons_zero, Option.bind_some, List.nil_append, List.append_nil, beq_self_eq_true, Bool.false_eq_true, Bool.true_eq_false, decide_true, decide_false, Bool.not_true, Bool.not_false, Bool.false_beq, Bool.true_beq, Option.toList, List.head?_cons, List.head?_nil, WR_nil2, WR_op, WR_re2, execR_no, execR_val2, execR_skip2, execR_enter2, execR_pan2, putRW_none2, putRW_some2, retRW_ret2, retRW_pan2, fixQ_normal2, fixQ_pan2, rsOf, sameBody, Tryz.f10, h12, h13, hlt]
    exact ⟨_, rfl⟩
  | m + 1, i, t, hi, h0, h1, h12, h13 => by
    refine WX_loop (W_sound ?_)
    have hil : i < l.length := by omega
    have hlt : ((i : Int) < (l.length : Int)) := by omega
    have hx := idx22 t1 o1 l i hil
    have hy := idx22 t2 o2 l i hil
    have hw := wrap_one (i := i) (by omega)
    have hne : (l[i] != l[i]) = false := by simp
    simp only [intA] at h12 h13
    simp only [thenW_normal, thenW_exit, thenW_ret, thenW_pan, W_skip, W_region, W_drawn, W_seq, W_cond, W_block, W_loop, W_exit, W_ret, seqQ_normal2, seqQ_exit2, seqQ_ret2, seqQ_pan2, blockW_normal2, blockW_ret2, blockW_pan2, blockW_exit2, WL_nil2, WL_cons, execL_no, execL_val2, execL_skip2, execL_enter2, execL_pan2, putL_none2, putL_some2, retL_ret2, retL_pan2, condW_t2, condW_f2, wantedA, exec1, evalO, initT, T.get_set, T.get_leaf, callA, mapO, ofOpt, ofOptS, ofConst, e2_P, e2_G, partsA, neNil3, finW_ret, finW_pan, giveW, resultsA, tupA, ground_not, notO_bool, fb_lss, fb_leq, fb_gtr, fb_geq, fb_add, fb_eqlI, fb_neqI, Nat.reduceLT, Nat.reduceAdd, Nat.reduceEqDiff, if_true, if_false, reduceIte, true_and, and_true, Option.getD_some, List.getElem?_toArray, List.getElem?_cons_succ, List.getElem?_cons_zero, Option.bind_some, List.nil_append, List.append_nil, beq_self_eq_true, Bool.false_eq_true, Bool.true_eq_false, decide_true, decide_false, Bool.not_true, Bool.not_false, Bool.false_beq, Bool.true_beq, Option.toList, List.head?_cons, List.head?_nil, WR_nil2, WR_op, WR_re2, execR_no, execR_val2, execR_skip2, execR_enter2, execR_pan2, putRW_none2, putRW_some2, retRW_ret2, retRW_pan2, fixQ_normal2, fixQ_pan2, rsOf, sameBody, Tryz.f10, h12, h13, hlt]
    refine WD_by [(0, true), (1, true), (2, true), (3, true), (4, true), (5, true), (6, true), (7, true), (8, true)] (by kernel_rfl) (by kernel_rfl) ?_
    simp only [thenW_normal, thenW_exit, thenW_ret, thenW_pan, W_skip, W_region, W_drawn, W_seq, W_cond, W_block, W_loop, W_exit, W_ret, seqQ_normal2, seqQ_exit2, seqQ_ret2, seqQ_pan2, blockW_normal2, blockW_ret2, blockW_pan2, blockW_exit2, WL_nil2, WL_cons, execL_no, execL_val2, execL_skip2, execL_enter2, execL_pan2, putL_none2, putL_some2, retL_ret2, retL_pan2, condW_t2, condW_f2, wantedA, exec1, evalO, initT, T.get_set, T.get_leaf, callA, mapO, ofOpt, ofOptS, ofConst, e2_P, e2_G, partsA, neNil3, finW_ret, finW_pan, giveW, resultsA, tupA, ground_not, notO_bool, fb_lss, fb_leq, fb_gtr, fb_geq, fb_add, fb_eqlI, fb_neqI, Nat.reduceLT, Nat.reduceAdd, Nat.reduceEqDiff, if_true, if_false, reduceIte, true_and, and_true, Option.getD_some, List.getElem?_toArray, List.getElem?_cons_succ, List.getElem?_cons_zero, Option.bind_some, List.nil_append, List.append_nil, beq_self_eq_true, Bool.false_eq_true, Bool.true_eq_false, decide_true, decide_false, Bool.not_true, Bool.not_false, Bool.false_beq, Bool.true_beq, Option.toList, List.head?_cons, List.head?_nil, WR_nil2, WR_op, WR_re2, execR_no, execR_val2, execR_skip2, execR_enter2, execR_pan2, putRW_none2, putRW_some2, retRW_ret2, retRW_pan2, fixQ_normal2, fixQ_pan2, rsOf, h0, h1, h13, hx, hy, ld2, neNil2, hne, hw]
    refine WX.mono (same_loop t1 o1 t2 o2 l hl S m (i + 1) _ (by omega) ?_ ?_ ?_ ?_) (fun r h => h)
    · simp only [T.get_set, Nat.reduceEqDiff, if_false, h0]
    · simp only [T.get_set, Nat.reduceEqDiff, if_false, h1]
    · simp only [T.get_set, Nat.reduceEqDiff, if_false, h12]; rfl
    · simp only [T.get_set, Nat.reduceEqDiff, if_true]; rfl
set_option maxHeartbeats 4000000 in
theorem same_w (t1 o1 t2 o2 : Nat) (l : List Int) (hl : l.length ≤ 1000) (S : St) : WC (E2 N ids) 10 [rowI t1 o1 l, rowI t2 o2 l] S (fun r => r = .ret (.v (.int .i64 0)) S) := by
  refine WC_fn Tryz.f10 (by kernel_rfl) (by kernel_rfl) (by kernel_rfl) (show (_ : Nat) ≤ _ from by show (_ : Nat) ≤ _; simp [Tryz.f10]) ?_
  have hne : (((l.length : Nat) : Int) != ((l.length : Nat) : Int)) = false := by simp
  have hl1 := len22 S t1 o1 l
  have hl2 := len22 S t2 o2 l
  simp only [thenW_normal, thenW_exit, thenW_ret, thenW_pan, W_skip, W_region, W_drawn, W_seq, W_cond, W_block, W_loop, W_exit, W_ret, seqQ_normal2, seqQ_exit2, seqQ_ret2, seqQ_pan2, blockW_normal2, blockW_ret2, blockW_pan2, blockW_exit2, WL_nil2, WL_cons, execL_no, execL_val2, execL_skip2, execL_enter2, execL_pan2, putL_none2, putL_some2, retL_ret2, retL_pan2, condW_t2, condW_f2, wantedA, exec1, evalO, initT, T.get_set, T.get_leaf, callA, mapO, ofOpt, ofOptS, ofConst, e2_P, e2_G, partsA, neNil3, finW_ret, finW_pan, giveW, resultsA, tupA, ground_not, notO_bool, fb_lss, fb_leq, fb_gtr, fb_geq, fb_add, fb_eqlI, fb_neqI, Nat.reduceLT, Nat.reduceAdd, Nat.reduceEqDiff, if_true, if_false, reduceIte, true_and, and_true, Option.getD_some, List.getElem?_toArray, List.getElem?_cons_succ, List.getElem?_cons_zero, Option.bind_some, List.nil_append, List.append_nil, beq_self_eq_true, Bool.false_eq_true, Bool.true_eq_false, decide_true, decide_false, Bool.not_true, Bool.not_false, Bool.false_beq, Bool.true_beq, Option.toList, List.head?_cons, List.head?_nil, WR_nil2, WR_op, WR_re2, execR_no, execR_val2, execR_skip2, execR_enter2, execR_pan2, putRW_none2, putRW_some2, retRW_ret2, retRW_pan2, fixQ_normal2, fixQ_pan2, rsOf, Tryz.f10, hl1, hl2, hne]
  refine WX.mono (same_loop t1 o1 t2 o2 l hl S l.length 0 _ (by omega) ?_ ?_ ?_ ?_) ?_
  · simp [T.get_set]
  · simp [T.get_set]
  · simp [T.get_set, intA]
  · simp [T.get_set, intA]
  rintro _ ⟨t', rfl⟩
  simp only [thenW_normal, thenW_exit, thenW_ret, thenW_pan, W_skip, W_region, W_drawn, W_seq, W_cond, W_block, W_loop, W_exit, W_ret, seqQ_normal2, seqQ_exit2, seqQ_ret2, seqQ_pan2, blockW_normal2, blockW_ret2, blockW_pan2, blockW_exit2, WL_nil2, WL_cons, execL_no, execL_val2, execL_skip2, execL_enter2, execL_pan2, putL_none2, putL_some2, retL_ret2, retL_pan2, condW_t2, condW_f2, wantedA, exec1, evalO, initT, T.get_set, T.get_leaf, callA, mapO, ofOpt, ofOptS, ofConst, e2_P, e2_G, partsA, neNil3, finW_ret, finW_pan, giveW, resultsA, tupA, ground_not, notO_bool, fb_lss, fb_leq, fb_gtr, fb_geq, fb_add, fb_eqlI, fb_neqI, Nat.reduceLT, Nat.reduceAdd, Nat.reduceEqDiff, if_true, if_false, reduceIte, true_and, and_true, Option.getD_some, List.getElem?_toArray, List.getElem?_cons_succ, List.getElem?_cons_zero, Option.bind_some, List.nil_append, List.append_nil, beq_self_eq_true, Bool.false_eq_true, Bool.true_eq_false, decide_true, decide_false, Bool.not_true, Bool.not_false, Bool.false_beq, Bool.true_beq, Option.toList, List.head?_cons, List.head?_nil, WR_nil2, WR_op, WR_re2, execR_no, execR_val2, execR_skip2, execR_enter2, execR_pan2, putRW_none2, putRW_some2, retRW_ret2, retRW_pan2, fixQ_normal2, fixQ_pan2, rsOf, Tryz.f10]
end
end Go.Ax
