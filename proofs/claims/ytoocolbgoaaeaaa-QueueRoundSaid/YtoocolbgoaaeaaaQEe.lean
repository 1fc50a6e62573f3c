/-
  QueueRound: whatever comes in, it answers true.
-/
import Derived.Test.YtoocolbgoaaeaaaQQb
noncomputable section
namespace Go.Ax
open Go.RowKit Go.Proofs
set_option linter.unusedVariables false
set_option linter.unusedSimpArgs false
set_option maxRecDepth 100000

theorem RowA.only {S S' : St} {v : AV} {L M : List Int} {q r room first most : Nat} {cs : List AV} (h : RowA S v L) (hQ : QAt S q r room first most cs M) (o : Only q r S S') : RowA S' v L := by
  rcases h with h | h | ⟨k, e, h1, h2⟩
  · exact .inl h
  · exact .inr (.inl h)
  · refine .inr (.inr ⟨k, e, ?_, by rw [o.1]; exact h2⟩)
    rw [o.2 (k + 2) (fun e => by rw [e, hQ.hq] at h1; cases h1) (fun e => by rw [e, hQ.hr] at h1; cases h1)]
    exact h1
/-- Any beginning of a row. -/
theorem slTo {v : AV} {L : List Int} (h : rowIs v L) (n : Nat) (hn : n ≤ L.length) : ∃ u, oSlice Try.prog 22 v none (some (.v (.int .i64 (n : Int)))) = some u ∧ rowIs u (L.take n) := by
  rcases h with ⟨rfl, rfl⟩ | ⟨tok, off, rfl⟩
  · have : n = 0 := by simpa using hn
    subst this
    exact ⟨.nils, by simp [oSlice, e22, s2, boundA], .inl ⟨rfl, rfl⟩⟩
  · by_cases h0 : n = 0
    · subst h0
      exact ⟨.sl 0 0 1 [], by simp [oSlice, e22, s2, boundA], .inr ⟨0, 0, by simp⟩⟩
    · by_cases h1 : n = L.length
      · subst h1
        refine ⟨.sl tok off 1 (L.map i64A), ?_, .inr ⟨tok, off, by rw [List.take_of_length_le (Nat.le_refl _)]⟩⟩
        have : ¬ (0 = L.length) := fun e => h0 e.symm
        simp [oSlice, e22, s2, boundA, this]
      · refine ⟨.sl 0 0 1 ((L.map i64A).take n), ?_, .inr ⟨0, 0, by rw [List.map_take]⟩⟩
        have h2 : ¬ (0 = n) := fun e => h0 e.symm
        simp [oSlice, e22, s2, boundA, hn, h1, h2]
noncomputable def rb1 : Code := match Try.f4.body with
  | some (.seq _ (.seq _ (.seq _ (.seq _ (.seq _ (.seq (.seq _ (.block _ (.loop b))) _)))))) => b
  | _ => .skip
noncomputable def rb2 : Code := match Try.f4.body with
  | some (.seq _ (.seq _ (.seq _ (.seq _ (.seq _ (.seq _ (.seq (.block _ (.loop b)) _))))))) => b
  | _ => .skip
theorem rb_is : (match rb1, rb2 with | .skip, _ => false | _, .skip => false | _, _ => true) = true := by kernel_rfl
set_option maxHeartbeats 16000000 in
theorem round1 (q r room : Nat) (lv : AV) (L : List Int) (hlv : rowIs lv L) (hL : L.length ≤ 1000) : ∀ (m i : Nat) (t : T AV) (S : St) (ov : AV) (O Q : List Int) (first most : Nat) (cs : List AV), i + m = L.length → t.get 1 = some lv → t.get 5 = some (.ptr q 0) → t.get 6 = some ov → t.get 24 = some lv → t.get 25 = some (intA L.length) → t.get 26 = some (intA i) →
    RowA S ov O → QAt S q r room first most cs Q → O ++ Q = L.take i → 2 ≤ S.next →
    WX E1 72 (.loop rb1) ⟨t, []⟩ S (fun o => ∃ t' S' ov' O' Q' first' most' cs', o = .out (.exit 0) ⟨t', []⟩ S' ∧ t'.get 1 = some lv ∧ t'.get 5 = some (.ptr q 0) ∧ t'.get 6 = some ov' ∧ RowA S' ov' O' ∧ QAt S' q r room first' most' cs' Q' ∧ O' ++ Q' = L ∧ 2 ≤ S'.next)
  | 0, i, t, S, ov, O, Q, first, most, cs, hi, h1, h5, h6, h24, h25, h26, ha, hQ, hOQ, h2 => by
    refine WX_loop (W_sound ?_)
    have hlt : ¬ ((i : Int) < (L.length : Int)) := by omega
    rw [List.take_of_length_le (by omega)] at hOQ
    simp only [intA] at h25 h26
    simp only [thenW_normal, thenW_exit, thenW_ret, thenW_pan, W_skip, W_region, W_drawn, W_seq, W_cond, W_block, W_loop, W_exit, W_ret, seqQ_normal2, seqQ_exit2, seqQ_ret2, seqQ_pan2, blockW_normal2, blockW_ret2, blockW_pan2, blockW_exit2, WL_nil2, WL_cons, execL_no, execL_val2, execL_skip2, execL_enter2, execL_pan2, putL_none2, putL_some2, retL_ret2, retL_pan2, condW_t2, condW_f2, WR_nil2, WR_op, WR_re2, execR_no, execR_val2, execR_skip2, execR_enter2, putRW_none2, putRW_some2, retRW_ret2, fixQ_normal2, wantedA, exec1, evalO, initT, T.get_set, T.get_leaf, callA, mapO, ofOpt, ofOptS, ofConst, e1_P, e1_G, partsA, neNil3, neNil2, finW_ret, finW_pan, giveW, resultsA, tupA, fb_lss, fb_leq, fb_gtr, fb_geq, fb_add, fb_sub, fb_eqlI, fb_neqI, Nat.reduceLT, Nat.reduceAdd, Nat.reduceEqDiff, if_true, if_false, reduceIte, true_and, and_true, Option.getD_some, List.getElem?_toArray, List.getElem?_cons_succ, List.getElem?_cons_zero, Option.bind_some, List.nil_append, List.append_nil, beq_self_eq_true, Bool.false_eq_true, Bool.true_eq_false, decide_true, decide_false, Bool.not_true, Bool.not_false, Bool.false_beq, Bool.true_beq, Option.toList, List.head?_cons, List.head?_nil, app22, ld3, ld2, ld22, fa43_0, fa43_1, fa43_2, fa43_3, fa28_0, fa28_1, fa28_2, cellO_box, oExtract, get_put, put_next, get_newBox, newBox_next, lit22_1, lit22_0, AV.noTup, rb1, Try.f4, h25, h26, hlt]
    exact ⟨_, _, ov, O, Q, first, most, cs, rfl, by simp only [T.get_set, Nat.reduceEqDiff, if_true, if_false, h1], by simp only [T.get_set, Nat.reduceEqDiff, if_true, if_false, h5], by simp only [T.get_set, Nat.reduceEqDiff, if_true, if_false, h6], ha, hQ, hOQ, h2⟩
  | m + 1, i, t, S, ov, O, Q, first, most, cs, hi, h1, h5, h6, h24, h25, h26, ha, hQ, hOQ, h2 => by
    refine WX_loop (W_sound ?_)
    obtain ⟨fn9, hf9⟩ := fnOk9
    obtain ⟨fn11, hf11⟩ := fnOk11
    have hil : i < L.length := by omega
    have hlt : ((i : Int) < (L.length : Int)) := by omega
    have hx := idx22 hlv i hil
    have hep := ld2ep S
    have hw := wrap_one (i := i) (by omega)
    have hlen : O.length + Q.length ≤ 1000 := by
      have := congrArg List.length hOQ
      simp at this; omega
    simp only [intA] at h25 h26
    simp only [thenW_normal, thenW_exit, thenW_ret, thenW_pan, W_skip, W_region, W_drawn, W_seq, W_cond, W_block, W_loop, W_exit, W_ret, seqQ_normal2, seqQ_exit2, seqQ_ret2, seqQ_pan2, blockW_normal2, blockW_ret2, blockW_pan2, blockW_exit2, WL_nil2, WL_cons, execL_no, execL_val2, execL_skip2, execL_enter2, execL_pan2, putL_none2, putL_some2, retL_ret2, retL_pan2, condW_t2, condW_f2, WR_nil2, WR_op, WR_re2, execR_no, execR_val2, execR_skip2, execR_enter2, putRW_none2, putRW_some2, retRW_ret2, fixQ_normal2, wantedA, exec1, evalO, initT, T.get_set, T.get_leaf, callA, mapO, ofOpt, ofOptS, ofConst, e1_P, e1_G, partsA, neNil3, neNil2, finW_ret, finW_pan, giveW, resultsA, tupA, fb_lss, fb_leq, fb_gtr, fb_geq, fb_add, fb_sub, fb_eqlI, fb_neqI, Nat.reduceLT, Nat.reduceAdd, Nat.reduceEqDiff, if_true, if_false, reduceIte, true_and, and_true, Option.getD_some, List.getElem?_toArray, List.getElem?_cons_succ, List.getElem?_cons_zero, Option.bind_some, List.nil_append, List.append_nil, beq_self_eq_true, Bool.false_eq_true, Bool.true_eq_false, decide_true, decide_false, Bool.not_true, Bool.not_false, Bool.false_beq, Bool.true_beq, Option.toList, List.head?_cons, List.head?_nil, app22, ld3, ld2, ld22, fa43_0, fa43_1, fa43_2, fa43_3, fa28_0, fa28_1, fa28_2, cellO_box, oExtract, get_put, put_next, get_newBox, newBox_next, lit22_1, lit22_0, AV.noTup, rb1, Try.f4, h25, h26, hlt, h24, hx, hep, h5, hf9]
    by_cases hfull : Q.length = room
    · refine WC.mono (put_no S q r room first most cs Q L[i] hQ hfull) ?_
      rintro _ rfl
      simp only [thenW_normal, thenW_exit, thenW_ret, thenW_pan, W_skip, W_region, W_drawn, W_seq, W_cond, W_block, W_loop, W_exit, W_ret, seqQ_normal2, seqQ_exit2, seqQ_ret2, seqQ_pan2, blockW_normal2, blockW_ret2, blockW_pan2, blockW_exit2, WL_nil2, WL_cons, execL_no, execL_val2, execL_skip2, execL_enter2, execL_pan2, putL_none2, putL_some2, retL_ret2, retL_pan2, condW_t2, condW_f2, WR_nil2, WR_op, WR_re2, execR_no, execR_val2, execR_skip2, execR_enter2, putRW_none2, putRW_some2, retRW_ret2, fixQ_normal2, wantedA, exec1, evalO, initT, T.get_set, T.get_leaf, callA, mapO, ofOpt, ofOptS, ofConst, e1_P, e1_G, partsA, neNil3, neNil2, finW_ret, finW_pan, giveW, resultsA, tupA, fb_lss, fb_leq, fb_gtr, fb_geq, fb_add, fb_sub, fb_eqlI, fb_neqI, Nat.reduceLT, Nat.reduceAdd, Nat.reduceEqDiff, if_true, if_false, reduceIte, true_and, and_true, Option.getD_some, List.getElem?_toArray, List.getElem?_cons_succ, List.getElem?_cons_zero, Option.bind_some, List.nil_append, List.append_nil, beq_self_eq_true, Bool.false_eq_true, Bool.true_eq_false, decide_true, decide_false, Bool.not_true, Bool.not_false, Bool.false_beq, Bool.true_beq, Option.toList, List.head?_cons, List.head?_nil, app22, ld3, ld2, ld22, fa43_0, fa43_1, fa43_2, fa43_3, fa28_0, fa28_1, fa28_2, cellO_box, oExtract, get_put, put_next, get_newBox, newBox_next, lit22_1, lit22_0, AV.noTup, rb1, Try.f4, h5, hf11]
      cases Q with
      | nil => exact absurd hfull (by have := hQ.fst; simp; omega)
      | cons a Q =>
        refine WC.mono (take_yes S q r room first most cs a Q hQ) ?_
        rintro _ ⟨S1, rfl, hQ1, o1⟩
        have ha1 := ha.only hQ o1
        have h21 : 2 ≤ S1.next := by rw [o1.1]; exact h2
        obtain ⟨ov', S2, hap, ha2, k2⟩ := append_w h21 ha1 (b := .sl 1 0 1 [.v (.int .i64 a)]) (M := [a]) (.inr ⟨1, 0, rfl⟩) (by simp at hlen ⊢; omega)
        have hQ2 := hQ1.keep k2
        simp only [thenW_normal, thenW_exit, thenW_ret, thenW_pan, W_skip, W_region, W_drawn, W_seq, W_cond, W_block, W_loop, W_exit, W_ret, seqQ_normal2, seqQ_exit2, seqQ_ret2, seqQ_pan2, blockW_normal2, blockW_ret2, blockW_pan2, blockW_exit2, WL_nil2, WL_cons, execL_no, execL_val2, execL_skip2, execL_enter2, execL_pan2, putL_none2, putL_some2, retL_ret2, retL_pan2, condW_t2, condW_f2, WR_nil2, WR_op, WR_re2, execR_no, execR_val2, execR_skip2, execR_enter2, putRW_none2, putRW_some2, retRW_ret2, fixQ_normal2, wantedA, exec1, evalO, initT, T.get_set, T.get_leaf, callA, mapO, ofOpt, ofOptS, ofConst, e1_P, e1_G, partsA, neNil3, neNil2, finW_ret, finW_pan, giveW, resultsA, tupA, fb_lss, fb_leq, fb_gtr, fb_geq, fb_add, fb_sub, fb_eqlI, fb_neqI, Nat.reduceLT, Nat.reduceAdd, Nat.reduceEqDiff, if_true, if_false, reduceIte, true_and, and_true, Option.getD_some, List.getElem?_toArray, List.getElem?_cons_succ, List.getElem?_cons_zero, Option.bind_some, List.nil_append, List.append_nil, beq_self_eq_true, Bool.false_eq_true, Bool.true_eq_false, decide_true, decide_false, Bool.not_true, Bool.not_false, Bool.false_beq, Bool.true_beq, Option.toList, List.head?_cons, List.head?_nil, app22, ld3, ld2, ld22, fa43_0, fa43_1, fa43_2, fa43_3, fa28_0, fa28_1, fa28_2, cellO_box, oExtract, get_put, put_next, get_newBox, newBox_next, lit22_1, lit22_0, AV.noTup, rb1, Try.f4, h6, h5, hap, ground_not, notO_bool, hf9]
        refine WC.mono (put_yes S2 q r room _ _ _ Q L[i] hQ2 (by simp at hfull; omega)) ?_
        rintro _ ⟨S3, rfl, hQ3, o3⟩
        simp only [thenW_normal, thenW_exit, thenW_ret, thenW_pan, W_skip, W_region, W_drawn, W_seq, W_cond, W_block, W_loop, W_exit, W_ret, seqQ_normal2, seqQ_exit2, seqQ_ret2, seqQ_pan2, blockW_normal2, blockW_ret2, blockW_pan2, blockW_exit2, WL_nil2, WL_cons, execL_no, execL_val2, execL_skip2, execL_enter2, execL_pan2, putL_none2, putL_some2, retL_ret2, retL_pan2, condW_t2, condW_f2, WR_nil2, WR_op, WR_re2, execR_no, execR_val2, execR_skip2, execR_enter2, putRW_none2, putRW_some2, retRW_ret2, fixQ_normal2, wantedA, exec1, evalO, initT, T.get_set, T.get_leaf, callA, mapO, ofOpt, ofOptS, ofConst, e1_P, e1_G, partsA, neNil3, neNil2, finW_ret, finW_pan, giveW, resultsA, tupA, fb_lss, fb_leq, fb_gtr, fb_geq, fb_add, fb_sub, fb_eqlI, fb_neqI, Nat.reduceLT, Nat.reduceAdd, Nat.reduceEqDiff, if_true, if_false, reduceIte, true_and, and_true, Option.getD_some, List.getElem?_toArray, List.getElem?_cons_succ, List.getElem?_cons_zero, Option.bind_some, List.nil_append, List.append_nil, beq_self_eq_true, Bool.false_eq_true, Bool.true_eq_false, decide_true, decide_false, Bool.not_true, Bool.not_false, Bool.false_beq, Bool.true_beq, Option.toList, List.head?_cons, List.head?_nil, app22, ld3, ld2, ld22, fa43_0, fa43_1, fa43_2, fa43_3, fa28_0, fa28_1, fa28_2, cellO_box, oExtract, get_put, put_next, get_newBox, newBox_next, lit22_1, lit22_0, AV.noTup, rb1, Try.f4, h26, hw, ground_not, notO_bool]
        refine WX.mono (round1 q r room lv L hlv hL m (i + 1) _ S3 ov' (O ++ [a]) (Q ++ [L[i]]) _ _ _ (by omega) ?_ ?_ ?_ ?_ ?_ ?_ (ha2.only hQ2 o3) hQ3 ?_ (by rw [o3.1]; exact Nat.le_trans h21 k2.1)) (fun r h => h)
        · simp only [T.get_set, Nat.reduceEqDiff, if_true, if_false, h1]
        · simp only [T.get_set, Nat.reduceEqDiff, if_true, if_false, h5]
        · simp only [T.get_set, Nat.reduceEqDiff, if_true, if_false]
        · simp only [T.get_set, Nat.reduceEqDiff, if_true, if_false, h24]
        · simp only [T.get_set, Nat.reduceEqDiff, if_true, if_false, h25]; rfl
        · simp only [T.get_set, Nat.reduceEqDiff, if_true, if_false]; rfl
        · rw [take_succ_get L i hil, ← hOQ]; simp
    · refine WC.mono (put_yes S q r room first most cs Q L[i] hQ hfull) ?_
      rintro _ ⟨S1, rfl, hQ1, o1⟩
      simp only [thenW_normal, thenW_exit, thenW_ret, thenW_pan, W_skip, W_region, W_drawn, W_seq, W_cond, W_block, W_loop, W_exit, W_ret, seqQ_normal2, seqQ_exit2, seqQ_ret2, seqQ_pan2, blockW_normal2, blockW_ret2, blockW_pan2, blockW_exit2, WL_nil2, WL_cons, execL_no, execL_val2, execL_skip2, execL_enter2, execL_pan2, putL_none2, putL_some2, retL_ret2, retL_pan2, condW_t2, condW_f2, WR_nil2, WR_op, WR_re2, execR_no, execR_val2, execR_skip2, execR_enter2, putRW_none2, putRW_some2, retRW_ret2, fixQ_normal2, wantedA, exec1, evalO, initT, T.get_set, T.get_leaf, callA, mapO, ofOpt, ofOptS, ofConst, e1_P, e1_G, partsA, neNil3, neNil2, finW_ret, finW_pan, giveW, resultsA, tupA, fb_lss, fb_leq, fb_gtr, fb_geq, fb_add, fb_sub, fb_eqlI, fb_neqI, Nat.reduceLT, Nat.reduceAdd, Nat.reduceEqDiff, if_true, if_false, reduceIte, true_and, and_true, Option.getD_some, List.getElem?_toArray, List.getElem?_cons_succ, List.getElem?_cons_zero, Option.bind_some, List.nil_append, List.append_nil, beq_self_eq_true, Bool.false_eq_true, Bool.true_eq_false, decide_true, decide_false, Bool.not_true, Bool.not_false, Bool.false_beq, Bool.true_beq, Option.toList, List.head?_cons, List.head?_nil, app22, ld3, ld2, ld22, fa43_0, fa43_1, fa43_2, fa43_3, fa28_0, fa28_1, fa28_2, cellO_box, oExtract, get_put, put_next, get_newBox, newBox_next, lit22_1, lit22_0, AV.noTup, rb1, Try.f4, h26, hw]
      refine WX.mono (round1 q r room lv L hlv hL m (i + 1) _ S1 ov O (Q ++ [L[i]]) _ _ _ (by omega) ?_ ?_ ?_ ?_ ?_ ?_ (ha.only hQ o1) hQ1 ?_ (by rw [o1.1]; exact h2)) (fun r h => h)
      · simp only [T.get_set, Nat.reduceEqDiff, if_true, if_false, h1]
      · simp only [T.get_set, Nat.reduceEqDiff, if_true, if_false, h5]
      · simp only [T.get_set, Nat.reduceEqDiff, if_true, if_false, h6]
      · simp only [T.get_set, Nat.reduceEqDiff, if_true, if_false, h24]
      · simp only [T.get_set, Nat.reduceEqDiff, if_true, if_false, h25]; rfl
      · simp only [T.get_set, Nat.reduceEqDiff, if_true, if_false]; rfl
      · rw [take_succ_get L i hil, ← hOQ]; simp
set_option maxHeartbeats 16000000 in
theorem round2 (q r room : Nat) (lv : AV) (L : List Int) (hlv : rowIs lv L) (hL : L.length ≤ 1000) : ∀ (Q : List Int) (t : T AV) (S : St) (ov : AV) (O : List Int) (first most : Nat) (cs : List AV), t.get 1 = some lv → t.get 5 = some (.ptr q 0) → t.get 6 = some ov →
    RowA S ov O → QAt S q r room first most cs Q → O ++ Q = L → 2 ≤ S.next →
    WX E1 72 (.loop rb2) ⟨t, []⟩ S (fun o => ∃ t' S' ov', o = .out (.exit 2) ⟨t', []⟩ S' ∧ t'.get 1 = some lv ∧ t'.get 6 = some ov' ∧ rowIs ov' L)
  | [], t, S, ov, O, first, most, cs, h1, h5, h6, ha, hQ, hOQ, h2 => by
    refine WX_loop (W_sound ?_)
    obtain ⟨fn14, hf14⟩ := fnOk14
    rw [List.append_nil] at hOQ
    subst hOQ
    simp only [thenW_normal, thenW_exit, thenW_ret, thenW_pan, W_skip, W_region, W_drawn, W_seq, W_cond, W_block, W_loop, W_exit, W_ret, seqQ_normal2, seqQ_exit2, seqQ_ret2, seqQ_pan2, blockW_normal2, blockW_ret2, blockW_pan2, blockW_exit2, WL_nil2, WL_cons, execL_no, execL_val2, execL_skip2, execL_enter2, execL_pan2, putL_none2, putL_some2, retL_ret2, retL_pan2, condW_t2, condW_f2, WR_nil2, WR_op, WR_re2, execR_no, execR_val2, execR_skip2, execR_enter2, putRW_none2, putRW_some2, retRW_ret2, fixQ_normal2, wantedA, exec1, evalO, initT, T.get_set, T.get_leaf, callA, mapO, ofOpt, ofOptS, ofConst, e1_P, e1_G, partsA, neNil3, neNil2, finW_ret, finW_pan, giveW, resultsA, tupA, fb_lss, fb_leq, fb_gtr, fb_geq, fb_add, fb_sub, fb_eqlI, fb_neqI, Nat.reduceLT, Nat.reduceAdd, Nat.reduceEqDiff, if_true, if_false, reduceIte, true_and, and_true, Option.getD_some, List.getElem?_toArray, List.getElem?_cons_succ, List.getElem?_cons_zero, Option.bind_some, List.nil_append, List.append_nil, beq_self_eq_true, Bool.false_eq_true, Bool.true_eq_false, decide_true, decide_false, Bool.not_true, Bool.not_false, Bool.false_beq, Bool.true_beq, Option.toList, List.head?_cons, List.head?_nil, app22, ld3, ld2, ld22, fa43_0, fa43_1, fa43_2, fa43_3, fa28_0, fa28_1, fa28_2, cellO_box, oExtract, get_put, put_next, get_newBox, newBox_next, lit22_1, lit22_0, AV.noTup, rb2, Try.f4, h5, hf14]
    refine WC.mono (len_w S q r room _ _ _ hQ.hq) ?_
    rintro _ rfl
    have hgt : ¬ ((([] : List Int).length : Int) > 0) := by simp
    simp only [thenW_normal, thenW_exit, thenW_ret, thenW_pan, W_skip, W_region, W_drawn, W_seq, W_cond, W_block, W_loop, W_exit, W_ret, seqQ_normal2, seqQ_exit2, seqQ_ret2, seqQ_pan2, blockW_normal2, blockW_ret2, blockW_pan2, blockW_exit2, WL_nil2, WL_cons, execL_no, execL_val2, execL_skip2, execL_enter2, execL_pan2, putL_none2, putL_some2, retL_ret2, retL_pan2, condW_t2, condW_f2, WR_nil2, WR_op, WR_re2, execR_no, execR_val2, execR_skip2, execR_enter2, putRW_none2, putRW_some2, retRW_ret2, fixQ_normal2, wantedA, exec1, evalO, initT, T.get_set, T.get_leaf, callA, mapO, ofOpt, ofOptS, ofConst, e1_P, e1_G, partsA, neNil3, neNil2, finW_ret, finW_pan, giveW, resultsA, tupA, fb_lss, fb_leq, fb_gtr, fb_geq, fb_add, fb_sub, fb_eqlI, fb_neqI, Nat.reduceLT, Nat.reduceAdd, Nat.reduceEqDiff, if_true, if_false, reduceIte, true_and, and_true, Option.getD_some, List.getElem?_toArray, List.getElem?_cons_succ, List.getElem?_cons_zero, Option.bind_some, List.nil_append, List.append_nil, beq_self_eq_true, Bool.false_eq_true, Bool.true_eq_false, decide_true, decide_false, Bool.not_true, Bool.not_false, Bool.false_beq, Bool.true_beq, Option.toList, List.head?_cons, List.head?_nil, app22, ld3, ld2, ld22, fa43_0, fa43_1, fa43_2, fa43_3, fa28_0, fa28_1, fa28_2, cellO_box, oExtract, get_put, put_next, get_newBox, newBox_next, lit22_1, lit22_0, AV.noTup, rb2, Try.f4, hgt]
    exact ⟨_, _, ov, rfl, by simp only [T.get_set, Nat.reduceEqDiff, if_true, if_false, h1], by simp only [T.get_set, Nat.reduceEqDiff, if_true, if_false, h6], ha.is⟩
  | a :: Q, t, S, ov, O, first, most, cs, h1, h5, h6, ha, hQ, hOQ, h2 => by
    refine WX_loop (W_sound ?_)
    obtain ⟨fn14, hf14⟩ := fnOk14
    obtain ⟨fn11, hf11⟩ := fnOk11
    have hlen : O.length + (Q.length + 1) = L.length := by rw [← hOQ]; simp
    simp only [thenW_normal, thenW_exit, thenW_ret, thenW_pan, W_skip, W_region, W_drawn, W_seq, W_cond, W_block, W_loop, W_exit, W_ret, seqQ_normal2, seqQ_exit2, seqQ_ret2, seqQ_pan2, blockW_normal2, blockW_ret2, blockW_pan2, blockW_exit2, WL_nil2, WL_cons, execL_no, execL_val2, execL_skip2, execL_enter2, execL_pan2, putL_none2, putL_some2, retL_ret2, retL_pan2, condW_t2, condW_f2, WR_nil2, WR_op, WR_re2, execR_no, execR_val2, execR_skip2, execR_enter2, putRW_none2, putRW_some2, retRW_ret2, fixQ_normal2, wantedA, exec1, evalO, initT, T.get_set, T.get_leaf, callA, mapO, ofOpt, ofOptS, ofConst, e1_P, e1_G, partsA, neNil3, neNil2, finW_ret, finW_pan, giveW, resultsA, tupA, fb_lss, fb_leq, fb_gtr, fb_geq, fb_add, fb_sub, fb_eqlI, fb_neqI, Nat.reduceLT, Nat.reduceAdd, Nat.reduceEqDiff, if_true, if_false, reduceIte, true_and, and_true, Option.getD_some, List.getElem?_toArray, List.getElem?_cons_succ, List.getElem?_cons_zero, Option.bind_some, List.nil_append, List.append_nil, beq_self_eq_true, Bool.false_eq_true, Bool.true_eq_false, decide_true, decide_false, Bool.not_true, Bool.not_false, Bool.false_beq, Bool.true_beq, Option.toList, List.head?_cons, List.head?_nil, app22, ld3, ld2, ld22, fa43_0, fa43_1, fa43_2, fa43_3, fa28_0, fa28_1, fa28_2, cellO_box, oExtract, get_put, put_next, get_newBox, newBox_next, lit22_1, lit22_0, AV.noTup, rb2, Try.f4, h5, hf14]
    refine WC.mono (len_w S q r room _ _ _ hQ.hq) ?_
    rintro _ rfl
    have hgt : (((a :: Q).length : Int) > 0) := by rw [List.length_cons]; omega
    simp only [thenW_normal, thenW_exit, thenW_ret, thenW_pan, W_skip, W_region, W_drawn, W_seq, W_cond, W_block, W_loop, W_exit, W_ret, seqQ_normal2, seqQ_exit2, seqQ_ret2, seqQ_pan2, blockW_normal2, blockW_ret2, blockW_pan2, blockW_exit2, WL_nil2, WL_cons, execL_no, execL_val2, execL_skip2, execL_enter2, execL_pan2, putL_none2, putL_some2, retL_ret2, retL_pan2, condW_t2, condW_f2, WR_nil2, WR_op, WR_re2, execR_no, execR_val2, execR_skip2, execR_enter2, putRW_none2, putRW_some2, retRW_ret2, fixQ_normal2, wantedA, exec1, evalO, initT, T.get_set, T.get_leaf, callA, mapO, ofOpt, ofOptS, ofConst, e1_P, e1_G, partsA, neNil3, neNil2, finW_ret, finW_pan, giveW, resultsA, tupA, fb_lss, fb_leq, fb_gtr, fb_geq, fb_add, fb_sub, fb_eqlI, fb_neqI, Nat.reduceLT, Nat.reduceAdd, Nat.reduceEqDiff, if_true, if_false, reduceIte, true_and, and_true, Option.getD_some, List.getElem?_toArray, List.getElem?_cons_succ, List.getElem?_cons_zero, Option.bind_some, List.nil_append, List.append_nil, beq_self_eq_true, Bool.false_eq_true, Bool.true_eq_false, decide_true, decide_false, Bool.not_true, Bool.not_false, Bool.false_beq, Bool.true_beq, Option.toList, List.head?_cons, List.head?_nil, app22, ld3, ld2, ld22, fa43_0, fa43_1, fa43_2, fa43_3, fa28_0, fa28_1, fa28_2, cellO_box, oExtract, get_put, put_next, get_newBox, newBox_next, lit22_1, lit22_0, AV.noTup, rb2, Try.f4, h5, hgt, hf11]
    refine WC.mono (take_yes S q r room first most cs a Q hQ) ?_
    rintro _ ⟨S1, rfl, hQ1, o1⟩
    have ha1 := ha.only hQ o1
    have h21 : 2 ≤ S1.next := by rw [o1.1]; exact h2
    obtain ⟨ov', S2, hap, ha2, k2⟩ := append_w h21 ha1 (b := .sl 1 0 1 [.v (.int .i64 a)]) (M := [a]) (.inr ⟨1, 0, rfl⟩) (by simp; omega)
    have hl1 := fun S => len22 S ha2.is
    have hl2 := fun S => len22 S hlv
    have hng : ¬ (((O ++ [a]).length : Int) > (L.length : Int)) := by simp; omega
    simp only [thenW_normal, thenW_exit, thenW_ret, thenW_pan, W_skip, W_region, W_drawn, W_seq, W_cond, W_block, W_loop, W_exit, W_ret, seqQ_normal2, seqQ_exit2, seqQ_ret2, seqQ_pan2, blockW_normal2, blockW_ret2, blockW_pan2, blockW_exit2, WL_nil2, WL_cons, execL_no, execL_val2, execL_skip2, execL_enter2, execL_pan2, putL_none2, putL_some2, retL_ret2, retL_pan2, condW_t2, condW_f2, WR_nil2, WR_op, WR_re2, execR_no, execR_val2, execR_skip2, execR_enter2, putRW_none2, putRW_some2, retRW_ret2, fixQ_normal2, wantedA, exec1, evalO, initT, T.get_set, T.get_leaf, callA, mapO, ofOpt, ofOptS, ofConst, e1_P, e1_G, partsA, neNil3, neNil2, finW_ret, finW_pan, giveW, resultsA, tupA, fb_lss, fb_leq, fb_gtr, fb_geq, fb_add, fb_sub, fb_eqlI, fb_neqI, Nat.reduceLT, Nat.reduceAdd, Nat.reduceEqDiff, if_true, if_false, reduceIte, true_and, and_true, Option.getD_some, List.getElem?_toArray, List.getElem?_cons_succ, List.getElem?_cons_zero, Option.bind_some, List.nil_append, List.append_nil, beq_self_eq_true, Bool.false_eq_true, Bool.true_eq_false, decide_true, decide_false, Bool.not_true, Bool.not_false, Bool.false_beq, Bool.true_beq, Option.toList, List.head?_cons, List.head?_nil, app22, ld3, ld2, ld22, fa43_0, fa43_1, fa43_2, fa43_3, fa28_0, fa28_1, fa28_2, cellO_box, oExtract, get_put, put_next, get_newBox, newBox_next, lit22_1, lit22_0, AV.noTup, rb2, Try.f4, h6, h1, hap, hl1, hl2, hng]
    refine WX.mono (round2 q r room lv L hlv hL Q _ S2 ov' (O ++ [a]) _ _ _ ?_ ?_ ?_ ha2 (hQ1.keep k2) (by rw [← hOQ]; simp) (Nat.le_trans h21 k2.1)) (fun r h => h)
    · simp only [T.get_set, Nat.reduceEqDiff, if_true, if_false, h1]
    · simp only [T.get_set, Nat.reduceEqDiff, if_true, if_false, h5]
    · simp only [T.get_set, Nat.reduceEqDiff, if_true, if_false]
set_option maxHeartbeats 16000000 in
theorem queueRound_w (room : Int) {v : AV} {L : List Int} (hv : rowIs v L) (S : St) (h2 : 2 ≤ S.next) : WC E1 4 [.v (.int .i64 room), v] S (fun x => ∃ S', x = .ret (.v (.bool true)) S') := by
  refine WC_fn Try.f4 (by kernel_rfl) (by kernel_rfl) (by kernel_rfl) (show (_ : Nat) ≤ _ from by show (_ : Nat) ≤ _; simp [Try.f4]) ?_
  obtain ⟨fn5, hf5⟩ := fnOk5
  obtain ⟨fn6, hf6⟩ := fnOk6
  obtain ⟨fn12, hf12⟩ := fnOk12
  have key1 := fun q r room lv L hlv hL t S ov O Q first most cs h1 h5 h6 h24 h25 h26 ha hQ hOQ h2 => round1 q r room lv L hlv hL L.length 0 t S ov O Q first most cs (by omega) h1 h5 h6 h24 h25 h26 ha hQ hOQ h2
  have key2 := round2
  unfold rb1 at key1
  unfold rb2 at key2
  simp only [Try.f4] at key1 key2
  simp only [thenW_normal, thenW_exit, thenW_ret, thenW_pan, W_skip, W_region, W_drawn, W_seq, W_cond, W_block, W_loop, W_exit, W_ret, seqQ_normal2, seqQ_exit2, seqQ_ret2, seqQ_pan2, blockW_normal2, blockW_ret2, blockW_pan2, blockW_exit2, WL_nil2, WL_cons, execL_no, execL_val2, execL_skip2, execL_enter2, execL_pan2, putL_none2, putL_some2, retL_ret2, retL_pan2, condW_t2, condW_f2, WR_nil2, WR_op, WR_re2, execR_no, execR_val2, execR_skip2, execR_enter2, putRW_none2, putRW_some2, retRW_ret2, fixQ_normal2, wantedA, exec1, evalO, initT, T.get_set, T.get_leaf, callA, mapO, ofOpt, ofOptS, ofConst, e1_P, e1_G, partsA, neNil3, neNil2, finW_ret, finW_pan, giveW, resultsA, tupA, fb_lss, fb_leq, fb_gtr, fb_geq, fb_add, fb_sub, fb_eqlI, fb_neqI, Nat.reduceLT, Nat.reduceAdd, Nat.reduceEqDiff, if_true, if_false, reduceIte, true_and, and_true, Option.getD_some, List.getElem?_toArray, List.getElem?_cons_succ, List.getElem?_cons_zero, Option.bind_some, List.nil_append, List.append_nil, beq_self_eq_true, Bool.false_eq_true, Bool.true_eq_false, decide_true, decide_false, Bool.not_true, Bool.not_false, Bool.false_beq, Bool.true_beq, Option.toList, List.head?_cons, List.head?_nil, app22, ld3, ld2, ld22, fa43_0, fa43_1, fa43_2, fa43_3, fa28_0, fa28_1, fa28_2, cellO_box, oExtract, get_put, put_next, get_newBox, newBox_next, lit22_1, lit22_0, AV.noTup, Try.f4, hf5]
  refine WC.mono (awake_w S h2) ?_
  rintro _ ⟨S1, rfl, h21⟩
  have hlen := fun S => len22 S hv
  obtain ⟨k, hk⟩ : ∃ k, k = min L.length 200 := ⟨_, rfl⟩
  have hmin : (if (200 : Int) < (L.length : Int) then (200 : Int) else (L.length : Int)) = (k : Int) := by split <;> omega
  obtain ⟨lv, hsl, hlv⟩ := slTo hv k (by omega)
  have hlvl : (L.take k).length = k := by simp; omega
  simp only [thenW_normal, thenW_exit, thenW_ret, thenW_pan, W_skip, W_region, W_drawn, W_seq, W_cond, W_block, W_loop, W_exit, W_ret, seqQ_normal2, seqQ_exit2, seqQ_ret2, seqQ_pan2, blockW_normal2, blockW_ret2, blockW_pan2, blockW_exit2, WL_nil2, WL_cons, execL_no, execL_val2, execL_skip2, execL_enter2, execL_pan2, putL_none2, putL_some2, retL_ret2, retL_pan2, condW_t2, condW_f2, WR_nil2, WR_op, WR_re2, execR_no, execR_val2, execR_skip2, execR_enter2, putRW_none2, putRW_some2, retRW_ret2, fixQ_normal2, wantedA, exec1, evalO, initT, T.get_set, T.get_leaf, callA, mapO, ofOpt, ofOptS, ofConst, e1_P, e1_G, partsA, neNil3, neNil2, finW_ret, finW_pan, giveW, resultsA, tupA, fb_lss, fb_leq, fb_gtr, fb_geq, fb_add, fb_sub, fb_eqlI, fb_neqI, Nat.reduceLT, Nat.reduceAdd, Nat.reduceEqDiff, if_true, if_false, reduceIte, true_and, and_true, Option.getD_some, List.getElem?_toArray, List.getElem?_cons_succ, List.getElem?_cons_zero, Option.bind_some, List.nil_append, List.append_nil, beq_self_eq_true, Bool.false_eq_true, Bool.true_eq_false, decide_true, decide_false, Bool.not_true, Bool.not_false, Bool.false_beq, Bool.true_beq, Option.toList, List.head?_cons, List.head?_nil, app22, ld3, ld2, ld22, fa43_0, fa43_1, fa43_2, fa43_3, fa28_0, fa28_1, fa28_2, cellO_box, oExtract, get_put, put_next, get_newBox, newBox_next, lit22_1, lit22_0, AV.noTup, Try.f4, ground_not, notO_bool, gMin50, gMin50O_i, hf6]
  refine WC.mono (new_w S1 h21 (if 50 < room then 50 else room) (by split <;> omega) (v := .nils) (L := []) (.inl ⟨rfl, rfl⟩) (by simp)) ?_
  rintro _ ⟨cs, S2, rfl, hQ, k1⟩
  have h22 : 2 ≤ S2.next := Nat.le_trans h21 k1.1
  have hlen3 := fun S => len22 S hlv
  rw [hlvl] at hlen3
  rcases hv with ⟨rfl, rfl⟩ | ⟨tok, off, rfl⟩
  all_goals
    simp only [thenW_normal, thenW_exit, thenW_ret, thenW_pan, W_skip, W_region, W_drawn, W_seq, W_cond, W_block, W_loop, W_exit, W_ret, seqQ_normal2, seqQ_exit2, seqQ_ret2, seqQ_pan2, blockW_normal2, blockW_ret2, blockW_pan2, blockW_exit2, WL_nil2, WL_cons, execL_no, execL_val2, execL_skip2, execL_enter2, execL_pan2, putL_none2, putL_some2, retL_ret2, retL_pan2, condW_t2, condW_f2, WR_nil2, WR_op, WR_re2, execR_no, execR_val2, execR_skip2, execR_enter2, putRW_none2, putRW_some2, retRW_ret2, fixQ_normal2, wantedA, exec1, evalO, initT, T.get_set, T.get_leaf, callA, mapO, ofOpt, ofOptS, ofConst, e1_P, e1_G, partsA, neNil3, neNil2, finW_ret, finW_pan, giveW, resultsA, tupA, fb_lss, fb_leq, fb_gtr, fb_geq, fb_add, fb_sub, fb_eqlI, fb_neqI, Nat.reduceLT, Nat.reduceAdd, Nat.reduceEqDiff, if_true, if_false, reduceIte, true_and, and_true, Option.getD_some, List.getElem?_toArray, List.getElem?_cons_succ, List.getElem?_cons_zero, Option.bind_some, List.nil_append, List.append_nil, beq_self_eq_true, Bool.false_eq_true, Bool.true_eq_false, decide_true, decide_false, Bool.not_true, Bool.not_false, Bool.false_beq, Bool.true_beq, Option.toList, List.head?_cons, List.head?_nil, app22, ld3, ld2, ld22, fa43_0, fa43_1, fa43_2, fa43_3, fa28_0, fa28_1, fa28_2, cellO_box, oExtract, get_put, put_next, get_newBox, newBox_next, lit22_1, lit22_0, AV.noTup, Try.f4, hlen, gMin200, gMin200O_i, hmin, hsl, hlen3]
    refine WX.mono (key1 _ _ _ lv _ hlv (by omega) _ S2 (.sl 1 0 1 []) [] [] _ _ _ ?_ ?_ ?_ ?_ ?_ ?_ (.inr (.inl ⟨rfl, rfl⟩)) hQ rfl h22) ?_
    · simp only [T.get_set, Nat.reduceEqDiff, if_true, if_false]
    · simp only [T.get_set, Nat.reduceEqDiff, if_true, if_false]
    · simp only [T.get_set, Nat.reduceEqDiff, if_true, if_false]
    · simp only [T.get_set, Nat.reduceEqDiff, if_true, if_false]
    · simp only [T.get_set, Nat.reduceEqDiff, if_true, if_false]; rw [hlvl]; rfl
    · simp only [T.get_set, Nat.reduceEqDiff, if_true, if_false]; rfl
    rintro o ⟨t1, S3, ov, O, Q, f1, m1, cs1, rfl, g1, g5, g6, ha, hQ3, hOQ, h23⟩
    simp only [thenW_normal, thenW_exit, thenW_ret, thenW_pan, W_skip, W_region, W_drawn, W_seq, W_cond, W_block, W_loop, W_exit, W_ret, seqQ_normal2, seqQ_exit2, seqQ_ret2, seqQ_pan2, blockW_normal2, blockW_ret2, blockW_pan2, blockW_exit2, WL_nil2, WL_cons, execL_no, execL_val2, execL_skip2, execL_enter2, execL_pan2, putL_none2, putL_some2, retL_ret2, retL_pan2, condW_t2, condW_f2, WR_nil2, WR_op, WR_re2, execR_no, execR_val2, execR_skip2, execR_enter2, putRW_none2, putRW_some2, retRW_ret2, fixQ_normal2, wantedA, exec1, evalO, initT, T.get_set, T.get_leaf, callA, mapO, ofOpt, ofOptS, ofConst, e1_P, e1_G, partsA, neNil3, neNil2, finW_ret, finW_pan, giveW, resultsA, tupA, fb_lss, fb_leq, fb_gtr, fb_geq, fb_add, fb_sub, fb_eqlI, fb_neqI, Nat.reduceLT, Nat.reduceAdd, Nat.reduceEqDiff, if_true, if_false, reduceIte, true_and, and_true, Option.getD_some, List.getElem?_toArray, List.getElem?_cons_succ, List.getElem?_cons_zero, Option.bind_some, List.nil_append, List.append_nil, beq_self_eq_true, Bool.false_eq_true, Bool.true_eq_false, decide_true, decide_false, Bool.not_true, Bool.not_false, Bool.false_beq, Bool.true_beq, Option.toList, List.head?_cons, List.head?_nil, app22, ld3, ld2, ld22, fa43_0, fa43_1, fa43_2, fa43_3, fa28_0, fa28_1, fa28_2, cellO_box, oExtract, get_put, put_next, get_newBox, newBox_next, lit22_1, lit22_0, AV.noTup, Try.f4]
    refine WX.mono (key2 _ _ _ lv _ hlv (by omega) Q t1 S3 ov O _ _ _ g1 g5 g6 ha hQ3 hOQ h23) ?_
    rintro o ⟨t2, S4, ov2, rfl, g1, g6, hov⟩
    simp only [thenW_normal, thenW_exit, thenW_ret, thenW_pan, W_skip, W_region, W_drawn, W_seq, W_cond, W_block, W_loop, W_exit, W_ret, seqQ_normal2, seqQ_exit2, seqQ_ret2, seqQ_pan2, blockW_normal2, blockW_ret2, blockW_pan2, blockW_exit2, WL_nil2, WL_cons, execL_no, execL_val2, execL_skip2, execL_enter2, execL_pan2, putL_none2, putL_some2, retL_ret2, retL_pan2, condW_t2, condW_f2, WR_nil2, WR_op, WR_re2, execR_no, execR_val2, execR_skip2, execR_enter2, putRW_none2, putRW_some2, retRW_ret2, fixQ_normal2, wantedA, exec1, evalO, initT, T.get_set, T.get_leaf, callA, mapO, ofOpt, ofOptS, ofConst, e1_P, e1_G, partsA, neNil3, neNil2, finW_ret, finW_pan, giveW, resultsA, tupA, fb_lss, fb_leq, fb_gtr, fb_geq, fb_add, fb_sub, fb_eqlI, fb_neqI, Nat.reduceLT, Nat.reduceAdd, Nat.reduceEqDiff, if_true, if_false, reduceIte, true_and, and_true, Option.getD_some, List.getElem?_toArray, List.getElem?_cons_succ, List.getElem?_cons_zero, Option.bind_some, List.nil_append, List.append_nil, beq_self_eq_true, Bool.false_eq_true, Bool.true_eq_false, decide_true, decide_false, Bool.not_true, Bool.not_false, Bool.false_beq, Bool.true_beq, Option.toList, List.head?_cons, List.head?_nil, app22, ld3, ld2, ld22, fa43_0, fa43_1, fa43_2, fa43_3, fa28_0, fa28_1, fa28_2, cellO_box, oExtract, get_put, put_next, get_newBox, newBox_next, lit22_1, lit22_0, AV.noTup, Try.f4, g1, g6, hf12]
    refine WC.mono (same_w S4 hov hlv (by omega)) ?_
    rintro _ rfl
    have e0 : ((0 : Int) == 0) = true := rfl
    simp only [thenW_normal, thenW_exit, thenW_ret, thenW_pan, W_skip, W_region, W_drawn, W_seq, W_cond, W_block, W_loop, W_exit, W_ret, seqQ_normal2, seqQ_exit2, seqQ_ret2, seqQ_pan2, blockW_normal2, blockW_ret2, blockW_pan2, blockW_exit2, WL_nil2, WL_cons, execL_no, execL_val2, execL_skip2, execL_enter2, execL_pan2, putL_none2, putL_some2, retL_ret2, retL_pan2, condW_t2, condW_f2, WR_nil2, WR_op, WR_re2, execR_no, execR_val2, execR_skip2, execR_enter2, putRW_none2, putRW_some2, retRW_ret2, fixQ_normal2, wantedA, exec1, evalO, initT, T.get_set, T.get_leaf, callA, mapO, ofOpt, ofOptS, ofConst, e1_P, e1_G, partsA, neNil3, neNil2, finW_ret, finW_pan, giveW, resultsA, tupA, fb_lss, fb_leq, fb_gtr, fb_geq, fb_add, fb_sub, fb_eqlI, fb_neqI, Nat.reduceLT, Nat.reduceAdd, Nat.reduceEqDiff, if_true, if_false, reduceIte, true_and, and_true, Option.getD_some, List.getElem?_toArray, List.getElem?_cons_succ, List.getElem?_cons_zero, Option.bind_some, List.nil_append, List.append_nil, beq_self_eq_true, Bool.false_eq_true, Bool.true_eq_false, decide_true, decide_false, Bool.not_true, Bool.not_false, Bool.false_beq, Bool.true_beq, Option.toList, List.head?_cons, List.head?_nil, app22, ld3, ld2, ld22, fa43_0, fa43_1, fa43_2, fa43_3, fa28_0, fa28_1, fa28_2, cellO_box, oExtract, get_put, put_next, get_newBox, newBox_next, lit22_1, lit22_0, AV.noTup, Try.f4, e0]
    exact ⟨S4, rfl⟩
end Go.Ax
