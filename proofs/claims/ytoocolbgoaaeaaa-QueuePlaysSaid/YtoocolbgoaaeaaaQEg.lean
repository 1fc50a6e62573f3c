/-
  QueuePlays: the loop, and the whole.
-/
import Derived.Test.YtoocolbgoaaeaaaQEf
noncomputable section
namespace Go.Ax
open Go.RowKit Go.Proofs
set_option linter.unusedVariables false
set_option linter.unusedSimpArgs false
set_option maxRecDepth 100000

theorem Play.only {S S' : St} {q r p room most first : Nat} {cs : List AV} {L M : List Int} {l : AV} {m : Nat} (o : Only q r S S') (h2 : 2 ≤ S.next) (hpq : p ≠ q) (hpr : p ≠ r) (hpn : p < S.next) (hQ : QAt S' q r room first most cs L) (hl : rowIs l L) (hp : S.mem.get p = some (.box (RefQ l room most))) : Play S' q r p room most L :=
  ⟨by rw [o.1]; exact h2, hpq, hpr, by rw [o.1]; exact hpn, ⟨_, _, hQ⟩, ⟨l, hl, by rw [o.2 p hpq hpr]; exact hp⟩⟩
theorem tt_bne : (true != true) = false := rfl
theorem ff_bne : (false != false) = false := rfl
set_option maxHeartbeats 32000000 in
theorem plays_loop (q r p room : Nat) (pv : AV) (B : List Bool) (hB : rowBl pv B) (v : Int) : ∀ (m i : Nat) (t : T AV) (S : St) (most : Nat) (L : List Int), i + m = B.length → t.get 2 = some pv → t.get 3 = some (.v (.int .i64 v)) → t.get 9 = some (.ptr q 0) → t.get 10 = some (.ptr p 0) → t.get 11 = some (intA i) →
    Play S q r p room most L →
    WX E1 124 (.loop plBody) ⟨t, []⟩ S (fun o => ∃ t' S' most' L', o = .out (.exit 0) ⟨t', []⟩ S' ∧ t'.get 9 = some (.ptr q 0) ∧ t'.get 10 = some (.ptr p 0) ∧ Play S' q r p room most' L')
  | 0, i, t, S, most, L, hi, g2, g3, g9, g10, g11, hP => by
    refine WX_loop (W_sound ?_)
    have hlt : ¬ ((i : Int) < (B.length : Int)) := by omega
    have hlen := fun S => len23 S hB
    simp only [intA] at g11
    simp only [thenW_normal, thenW_exit, thenW_ret, thenW_pan, W_skip, W_region, W_drawn, W_seq, W_cond, W_block, W_loop, W_exit, W_ret, seqQ_normal2, seqQ_exit2, seqQ_ret2, seqQ_pan2, blockW_normal2, blockW_ret2, blockW_pan2, blockW_exit2, WL_nil2, WL_cons, execL_no, execL_val2, execL_skip2, execL_enter2, execL_pan2, putL_none2, putL_some2, retL_ret2, retL_pan2, condW_t2, condW_f2, WR_nil2, WR_op, WR_re2, execR_no, execR_val2, execR_skip2, execR_enter2, putRW_none2, putRW_some2, retRW_ret2, fixQ_normal2, wantedA, exec1, evalO, initT, T.get_set, T.get_leaf, callA, mapO, ofOpt, ofOptS, ofConst, e1_P, e1_G, partsA, neNil3, neNil2, finW_ret, finW_pan, giveW, resultsA, tupA, fb_lss, fb_leq, fb_gtr, fb_geq, fb_add, fb_sub, fb_eqlI, fb_neqI, Nat.reduceLT, Nat.reduceAdd, Nat.reduceEqDiff, if_true, if_false, reduceIte, true_and, and_true, Option.getD_some, List.getElem?_toArray, List.getElem?_cons_succ, List.getElem?_cons_zero, Option.bind_some, List.nil_append, List.append_nil, beq_self_eq_true, Bool.false_eq_true, Bool.true_eq_false, decide_true, decide_false, Bool.not_true, Bool.not_false, Bool.false_beq, Bool.true_beq, Option.toList, List.head?_cons, List.head?_nil, app22, ld3, ld2, ld22, fa43_0, fa43_1, fa43_2, fa43_3, fa28_0, fa28_1, fa28_2, cellO_box, oExtract, get_put, put_next, get_newBox, newBox_next, lit22_1, lit22_0, AV.noTup, plBody, Try.f3, neNil4, fb_bool, eqOr_neqB, neqBO_bb, g2, g11, hlen, hlt]
    exact ⟨_, _, most, L, rfl, by simp only [T.get_set, Nat.reduceEqDiff, if_true, if_false, g9], by simp only [T.get_set, Nat.reduceEqDiff, if_true, if_false, g10], hP⟩
  | m + 1, i, t, S, most, L, hi, g2, g3, g9, g10, g11, hP => by
    refine WX_loop (W_sound ?_)
    have hil : i < B.length := by omega
    have hlt : ((i : Int) < (B.length : Int)) := by omega
    have hlen := fun S => len23 S hB
    simp only [intA] at g11
    by_cases h80 : i < 80
    case neg =>
      have hlt2 : ¬ ((i : Int) < 80) := by omega
      simp only [thenW_normal, thenW_exit, thenW_ret, thenW_pan, W_skip, W_region, W_drawn, W_seq, W_cond, W_block, W_loop, W_exit, W_ret, seqQ_normal2, seqQ_exit2, seqQ_ret2, seqQ_pan2, blockW_normal2, blockW_ret2, blockW_pan2, blockW_exit2, WL_nil2, WL_cons, execL_no, execL_val2, execL_skip2, execL_enter2, execL_pan2, putL_none2, putL_some2, retL_ret2, retL_pan2, condW_t2, condW_f2, WR_nil2, WR_op, WR_re2, execR_no, execR_val2, execR_skip2, execR_enter2, putRW_none2, putRW_some2, retRW_ret2, fixQ_normal2, wantedA, exec1, evalO, initT, T.get_set, T.get_leaf, callA, mapO, ofOpt, ofOptS, ofConst, e1_P, e1_G, partsA, neNil3, neNil2, finW_ret, finW_pan, giveW, resultsA, tupA, fb_lss, fb_leq, fb_gtr, fb_geq, fb_add, fb_sub, fb_eqlI, fb_neqI, Nat.reduceLT, Nat.reduceAdd, Nat.reduceEqDiff, if_true, if_false, reduceIte, true_and, and_true, Option.getD_some, List.getElem?_toArray, List.getElem?_cons_succ, List.getElem?_cons_zero, Option.bind_some, List.nil_append, List.append_nil, beq_self_eq_true, Bool.false_eq_true, Bool.true_eq_false, decide_true, decide_false, Bool.not_true, Bool.not_false, Bool.false_beq, Bool.true_beq, Option.toList, List.head?_cons, List.head?_nil, app22, ld3, ld2, ld22, fa43_0, fa43_1, fa43_2, fa43_3, fa28_0, fa28_1, fa28_2, cellO_box, oExtract, get_put, put_next, get_newBox, newBox_next, lit22_1, lit22_0, AV.noTup, plBody, Try.f3, neNil4, fb_bool, eqOr_neqB, neqBO_bb, g2, g11, hlen, hlt, hlt2]
      exact ⟨_, _, most, L, rfl, by simp only [T.get_set, Nat.reduceEqDiff, if_true, if_false, g9], by simp only [T.get_set, Nat.reduceEqDiff, if_true, if_false, g10], hP⟩
    have hlt2 : ((i : Int) < 80) := by omega
    have hw := wrap_one (i := i) (by omega)
    have hx := idx23 hB i hil
    have hep := fun S a => ld4ep S a
    obtain ⟨fn8, hf8⟩ := fnOk8
    obtain ⟨fn9, hf9⟩ := fnOk9
    obtain ⟨fn10, hf10⟩ := fnOk10
    obtain ⟨fn11, hf11⟩ := fnOk11
    obtain ⟨first, cs, hQ⟩ := hP.queue
    obtain ⟨l, hl, hp⟩ := hP.ref
    have hfit := hQ.fits
    have hsm := hQ.small
    have hms := hQ.mst
    have lk := look_ok q r p room
    unfold plLook plBody at lk
    simp only [Try.f3, W_seq, W_drawn] at lk
    have hld := ld28 S p _ _ _ hp
    -- behind the looks: the next turn
    have fin : ∀ (t1 : T AV) (S1 : St) (most1 : Nat) (L1 : List Int), Play S1 q r p room most1 L1 → t1.get 2 = some pv → t1.get 3 = some (.v (.int .i64 v)) → t1.get 9 = some (.ptr q 0) → t1.get 10 = some (.ptr p 0) → t1.get 11 = some (.v (.int .i64 (i : Int))) →
        ∀ (t2 : T AV) (S2 : St), Play S2 q r p room most1 L1 → (∀ k, k < 84 → t2.get k = t1.get k) →
        WX E1 124 (.loop plBody) ⟨(t2.set 42 (some (.v (.int .i64 (i : Int))))).set 43 (some (.v (.int .i64 ((i + 1 : Nat) : Int)))) |>.set 11 (some (.v (.int .i64 ((i + 1 : Nat) : Int)))), []⟩ S2 (fun o => ∃ t' S' most' L', o = .out (.exit 0) ⟨t', []⟩ S' ∧ t'.get 9 = some (.ptr q 0) ∧ t'.get 10 = some (.ptr p 0) ∧ Play S' q r p room most' L') := by
      intro t1 S1 most1 L1 hP1 a2 a3 a9 a10 a11 t2 S2 hP2 hk
      refine plays_loop q r p room pv B hB v m (i + 1) _ S2 most1 L1 (by omega) ?_ ?_ ?_ ?_ ?_ hP2
      · simp only [T.get_set, Nat.reduceEqDiff, if_true, if_false]; rw [hk 2 (by decide)]; exact a2
      · simp only [T.get_set, Nat.reduceEqDiff, if_true, if_false]; rw [hk 3 (by decide)]; exact a3
      · simp only [T.get_set, Nat.reduceEqDiff, if_true, if_false]; rw [hk 9 (by decide)]; exact a9
      · simp only [T.get_set, Nat.reduceEqDiff, if_true, if_false]; rw [hk 10 (by decide)]; exact a10
      · simp only [T.get_set, Nat.reduceEqDiff, if_true, if_false]; rfl
    unfold plBody at fin ⊢
    simp only [Try.f3] at fin
    cases hb : B[i] with
    | true =>
      rw [hb] at hx
      simp only [thenW_normal, thenW_exit, thenW_ret, thenW_pan, W_skip, W_region, W_drawn, W_seq, W_cond, W_block, W_loop, W_exit, W_ret, seqQ_normal2, seqQ_exit2, seqQ_ret2, seqQ_pan2, blockW_normal2, blockW_ret2, blockW_pan2, blockW_exit2, WL_nil2, WL_cons, execL_no, execL_val2, execL_skip2, execL_enter2, execL_pan2, putL_none2, putL_some2, retL_ret2, retL_pan2, condW_t2, condW_f2, WR_nil2, WR_op, WR_re2, execR_no, execR_val2, execR_skip2, execR_enter2, putRW_none2, putRW_some2, retRW_ret2, fixQ_normal2, wantedA, exec1, evalO, initT, T.get_set, T.get_leaf, callA, mapO, ofOpt, ofOptS, ofConst, e1_P, e1_G, partsA, neNil3, neNil2, finW_ret, finW_pan, giveW, resultsA, tupA, fb_lss, fb_leq, fb_gtr, fb_geq, fb_add, fb_sub, fb_eqlI, fb_neqI, Nat.reduceLT, Nat.reduceAdd, Nat.reduceEqDiff, if_true, if_false, reduceIte, true_and, and_true, Option.getD_some, List.getElem?_toArray, List.getElem?_cons_succ, List.getElem?_cons_zero, Option.bind_some, List.nil_append, List.append_nil, beq_self_eq_true, Bool.false_eq_true, Bool.true_eq_false, decide_true, decide_false, Bool.not_true, Bool.not_false, Bool.false_beq, Bool.true_beq, Option.toList, List.head?_cons, List.head?_nil, app22, ld3, ld2, ld22, fa43_0, fa43_1, fa43_2, fa43_3, fa28_0, fa28_1, fa28_2, cellO_box, oExtract, get_put, put_next, get_newBox, newBox_next, lit22_1, lit22_0, AV.noTup, plBody, Try.f3, neNil4, fb_bool, eqOr_neqB, neqBO_bb, g2, g11, hlen, hlt, hlt2, hx, hep, g10, hld, g3, hf8]
      refine WC.mono (refPut_w S hP.two room most _ hl (by omega) hms) ?_
      rintro _ ⟨l', L', m', S1, rfl, hl', k1, heq⟩
      obtain ⟨S2, S3, S4, e2, e3, e4, e5, hQ4, hp4, h24, hpn4⟩ := relay (Nat.le_trans hP.two k1.1) hP.pq hP.pr (Nat.lt_of_lt_of_le hP.pn k1.1) (hQ.keep k1) (k1.2 _ _ hP.pn hp) rfl l' m'
      simp only [thenW_normal, thenW_exit, thenW_ret, thenW_pan, W_skip, W_region, W_drawn, W_seq, W_cond, W_block, W_loop, W_exit, W_ret, seqQ_normal2, seqQ_exit2, seqQ_ret2, seqQ_pan2, blockW_normal2, blockW_ret2, blockW_pan2, blockW_exit2, WL_nil2, WL_cons, execL_no, execL_val2, execL_skip2, execL_enter2, execL_pan2, putL_none2, putL_some2, retL_ret2, retL_pan2, condW_t2, condW_f2, WR_nil2, WR_op, WR_re2, execR_no, execR_val2, execR_skip2, execR_enter2, putRW_none2, putRW_some2, retRW_ret2, fixQ_normal2, wantedA, exec1, evalO, initT, T.get_set, T.get_leaf, callA, mapO, ofOpt, ofOptS, ofConst, e1_P, e1_G, partsA, neNil3, neNil2, finW_ret, finW_pan, giveW, resultsA, tupA, fb_lss, fb_leq, fb_gtr, fb_geq, fb_add, fb_sub, fb_eqlI, fb_neqI, Nat.reduceLT, Nat.reduceAdd, Nat.reduceEqDiff, if_true, if_false, reduceIte, true_and, and_true, Option.getD_some, List.getElem?_toArray, List.getElem?_cons_succ, List.getElem?_cons_zero, Option.bind_some, List.nil_append, List.append_nil, beq_self_eq_true, Bool.false_eq_true, Bool.true_eq_false, decide_true, decide_false, Bool.not_true, Bool.not_false, Bool.false_beq, Bool.true_beq, Option.toList, List.head?_cons, List.head?_nil, app22, ld3, ld2, ld22, fa43_0, fa43_1, fa43_2, fa43_3, fa28_0, fa28_1, fa28_2, cellO_box, oExtract, get_put, put_next, get_newBox, newBox_next, lit22_1, lit22_0, AV.noTup, plBody, Try.f3, neNil4, fb_bool, eqOr_neqB, neqBO_bb, al28, e2, e3, e4, e5, g9, g3, g10, g11, hf9]
      by_cases hfull : L.length < room
      · rw [if_pos hfull] at heq
        injection heq with q1 q2; subst q1; subst q2
        refine WC.mono (put_yes S4 q r room first most cs L _ hQ4 (by omega)) ?_
        rintro _ ⟨S5, rfl, hQ5, o5⟩
        simp only [thenW_normal, thenW_exit, thenW_ret, thenW_pan, W_skip, W_region, W_drawn, W_seq, W_cond, W_block, W_loop, W_exit, W_ret, seqQ_normal2, seqQ_exit2, seqQ_ret2, seqQ_pan2, blockW_normal2, blockW_ret2, blockW_pan2, blockW_exit2, WL_nil2, WL_cons, execL_no, execL_val2, execL_skip2, execL_enter2, execL_pan2, putL_none2, putL_some2, retL_ret2, retL_pan2, condW_t2, condW_f2, WR_nil2, WR_op, WR_re2, execR_no, execR_val2, execR_skip2, execR_enter2, putRW_none2, putRW_some2, retRW_ret2, fixQ_normal2, wantedA, exec1, evalO, initT, T.get_set, T.get_leaf, callA, mapO, ofOpt, ofOptS, ofConst, e1_P, e1_G, partsA, neNil3, neNil2, finW_ret, finW_pan, giveW, resultsA, tupA, fb_lss, fb_leq, fb_gtr, fb_geq, fb_add, fb_sub, fb_eqlI, fb_neqI, Nat.reduceLT, Nat.reduceAdd, Nat.reduceEqDiff, if_true, if_false, reduceIte, true_and, and_true, Option.getD_some, List.getElem?_toArray, List.getElem?_cons_succ, List.getElem?_cons_zero, Option.bind_some, List.nil_append, List.append_nil, beq_self_eq_true, Bool.false_eq_true, Bool.true_eq_false, decide_true, decide_false, Bool.not_true, Bool.not_false, Bool.false_beq, Bool.true_beq, Option.toList, List.head?_cons, List.head?_nil, app22, ld3, ld2, ld22, fa43_0, fa43_1, fa43_2, fa43_3, fa28_0, fa28_1, fa28_2, cellO_box, oExtract, get_put, put_next, get_newBox, newBox_next, lit22_1, lit22_0, AV.noTup, plBody, Try.f3, neNil4, fb_bool, eqOr_neqB, neqBO_bb, decide_eq_true hfull, tt_bne]
        have hP5 := Play.only (M := L) (m := 0) o5 h24 hP.pq hP.pr hpn4 hQ5 hl' hp4
        refine lk _ _ S5 hP5 _ ?_ ?_ _ (fun t2 S6 hP6 hk => ?_)
        · simp only [T.get_set, Nat.reduceEqDiff, if_true, if_false, g9]
        · simp only [T.get_set, Nat.reduceEqDiff, if_true, if_false, g10]
        have a11 := hk 11 (by decide)
        simp only [T.get_set, Nat.reduceEqDiff, if_true, if_false, g11] at a11
        simp only [thenW_normal, thenW_exit, thenW_ret, thenW_pan, W_skip, W_region, W_drawn, W_seq, W_cond, W_block, W_loop, W_exit, W_ret, seqQ_normal2, seqQ_exit2, seqQ_ret2, seqQ_pan2, blockW_normal2, blockW_ret2, blockW_pan2, blockW_exit2, WL_nil2, WL_cons, execL_no, execL_val2, execL_skip2, execL_enter2, execL_pan2, putL_none2, putL_some2, retL_ret2, retL_pan2, condW_t2, condW_f2, WR_nil2, WR_op, WR_re2, execR_no, execR_val2, execR_skip2, execR_enter2, putRW_none2, putRW_some2, retRW_ret2, fixQ_normal2, wantedA, exec1, evalO, initT, T.get_set, T.get_leaf, callA, mapO, ofOpt, ofOptS, ofConst, e1_P, e1_G, partsA, neNil3, neNil2, finW_ret, finW_pan, giveW, resultsA, tupA, fb_lss, fb_leq, fb_gtr, fb_geq, fb_add, fb_sub, fb_eqlI, fb_neqI, Nat.reduceLT, Nat.reduceAdd, Nat.reduceEqDiff, if_true, if_false, reduceIte, true_and, and_true, Option.getD_some, List.getElem?_toArray, List.getElem?_cons_succ, List.getElem?_cons_zero, Option.bind_some, List.nil_append, List.append_nil, beq_self_eq_true, Bool.false_eq_true, Bool.true_eq_false, decide_true, decide_false, Bool.not_true, Bool.not_false, Bool.false_beq, Bool.true_beq, Option.toList, List.head?_cons, List.head?_nil, app22, ld3, ld2, ld22, fa43_0, fa43_1, fa43_2, fa43_3, fa28_0, fa28_1, fa28_2, cellO_box, oExtract, get_put, put_next, get_newBox, newBox_next, lit22_1, lit22_0, AV.noTup, a11, hw]
        refine fin _ S5 _ _ hP5 ?_ ?_ ?_ ?_ ?_ t2 S6 hP6 hk
        · simp only [T.get_set, Nat.reduceEqDiff, if_true, if_false, g2]
        · simp only [T.get_set, Nat.reduceEqDiff, if_true, if_false, g3]
        · simp only [T.get_set, Nat.reduceEqDiff, if_true, if_false, g9]
        · simp only [T.get_set, Nat.reduceEqDiff, if_true, if_false, g10]
        · simp only [T.get_set, Nat.reduceEqDiff, if_true, if_false, g11]
      · rw [if_neg hfull] at heq
        injection heq with q1 q2; subst q1; subst q2
        refine WC.mono (put_no S4 q r room first _ cs _ _ hQ4 (by omega)) ?_
        rintro _ rfl
        simp only [thenW_normal, thenW_exit, thenW_ret, thenW_pan, W_skip, W_region, W_drawn, W_seq, W_cond, W_block, W_loop, W_exit, W_ret, seqQ_normal2, seqQ_exit2, seqQ_ret2, seqQ_pan2, blockW_normal2, blockW_ret2, blockW_pan2, blockW_exit2, WL_nil2, WL_cons, execL_no, execL_val2, execL_skip2, execL_enter2, execL_pan2, putL_none2, putL_some2, retL_ret2, retL_pan2, condW_t2, condW_f2, WR_nil2, WR_op, WR_re2, execR_no, execR_val2, execR_skip2, execR_enter2, putRW_none2, putRW_some2, retRW_ret2, fixQ_normal2, wantedA, exec1, evalO, initT, T.get_set, T.get_leaf, callA, mapO, ofOpt, ofOptS, ofConst, e1_P, e1_G, partsA, neNil3, neNil2, finW_ret, finW_pan, giveW, resultsA, tupA, fb_lss, fb_leq, fb_gtr, fb_geq, fb_add, fb_sub, fb_eqlI, fb_neqI, Nat.reduceLT, Nat.reduceAdd, Nat.reduceEqDiff, if_true, if_false, reduceIte, true_and, and_true, Option.getD_some, List.getElem?_toArray, List.getElem?_cons_succ, List.getElem?_cons_zero, Option.bind_some, List.nil_append, List.append_nil, beq_self_eq_true, Bool.false_eq_true, Bool.true_eq_false, decide_true, decide_false, Bool.not_true, Bool.not_false, Bool.false_beq, Bool.true_beq, Option.toList, List.head?_cons, List.head?_nil, app22, ld3, ld2, ld22, fa43_0, fa43_1, fa43_2, fa43_3, fa28_0, fa28_1, fa28_2, cellO_box, oExtract, get_put, put_next, get_newBox, newBox_next, lit22_1, lit22_0, AV.noTup, plBody, Try.f3, neNil4, fb_bool, eqOr_neqB, neqBO_bb, decide_eq_false hfull, ff_bne]
        have hP5 : Play S4 q r p room m' L' := ⟨h24, hP.pq, hP.pr, hpn4, ⟨_, _, hQ4⟩, ⟨l', hl', hp4⟩⟩
        refine lk _ _ S4 hP5 _ ?_ ?_ _ (fun t2 S6 hP6 hk => ?_)
        · simp only [T.get_set, Nat.reduceEqDiff, if_true, if_false, g9]
        · simp only [T.get_set, Nat.reduceEqDiff, if_true, if_false, g10]
        have a11 := hk 11 (by decide)
        simp only [T.get_set, Nat.reduceEqDiff, if_true, if_false, g11] at a11
        simp only [thenW_normal, thenW_exit, thenW_ret, thenW_pan, W_skip, W_region, W_drawn, W_seq, W_cond, W_block, W_loop, W_exit, W_ret, seqQ_normal2, seqQ_exit2, seqQ_ret2, seqQ_pan2, blockW_normal2, blockW_ret2, blockW_pan2, blockW_exit2, WL_nil2, WL_cons, execL_no, execL_val2, execL_skip2, execL_enter2, execL_pan2, putL_none2, putL_some2, retL_ret2, retL_pan2, condW_t2, condW_f2, WR_nil2, WR_op, WR_re2, execR_no, execR_val2, execR_skip2, execR_enter2, putRW_none2, putRW_some2, retRW_ret2, fixQ_normal2, wantedA, exec1, evalO, initT, T.get_set, T.get_leaf, callA, mapO, ofOpt, ofOptS, ofConst, e1_P, e1_G, partsA, neNil3, neNil2, finW_ret, finW_pan, giveW, resultsA, tupA, fb_lss, fb_leq, fb_gtr, fb_geq, fb_add, fb_sub, fb_eqlI, fb_neqI, Nat.reduceLT, Nat.reduceAdd, Nat.reduceEqDiff, if_true, if_false, reduceIte, true_and, and_true, Option.getD_some, List.getElem?_toArray, List.getElem?_cons_succ, List.getElem?_cons_zero, Option.bind_some, List.nil_append, List.append_nil, beq_self_eq_true, Bool.false_eq_true, Bool.true_eq_false, decide_true, decide_false, Bool.not_true, Bool.not_false, Bool.false_beq, Bool.true_beq, Option.toList, List.head?_cons, List.head?_nil, app22, ld3, ld2, ld22, fa43_0, fa43_1, fa43_2, fa43_3, fa28_0, fa28_1, fa28_2, cellO_box, oExtract, get_put, put_next, get_newBox, newBox_next, lit22_1, lit22_0, AV.noTup, a11, hw]
        refine fin _ S4 _ _ hP5 ?_ ?_ ?_ ?_ ?_ t2 S6 hP6 hk
        · simp only [T.get_set, Nat.reduceEqDiff, if_true, if_false, g2]
        · simp only [T.get_set, Nat.reduceEqDiff, if_true, if_false, g3]
        · simp only [T.get_set, Nat.reduceEqDiff, if_true, if_false, g9]
        · simp only [T.get_set, Nat.reduceEqDiff, if_true, if_false, g10]
        · simp only [T.get_set, Nat.reduceEqDiff, if_true, if_false, g11]
    | false =>
      rw [hb] at hx
      simp only [thenW_normal, thenW_exit, thenW_ret, thenW_pan, W_skip, W_region, W_drawn, W_seq, W_cond, W_block, W_loop, W_exit, W_ret, seqQ_normal2, seqQ_exit2, seqQ_ret2, seqQ_pan2, blockW_normal2, blockW_ret2, blockW_pan2, blockW_exit2, WL_nil2, WL_cons, execL_no, execL_val2, execL_skip2, execL_enter2, execL_pan2, putL_none2, putL_some2, retL_ret2, retL_pan2, condW_t2, condW_f2, WR_nil2, WR_op, WR_re2, execR_no, execR_val2, execR_skip2, execR_enter2, putRW_none2, putRW_some2, retRW_ret2, fixQ_normal2, wantedA, exec1, evalO, initT, T.get_set, T.get_leaf, callA, mapO, ofOpt, ofOptS, ofConst, e1_P, e1_G, partsA, neNil3, neNil2, finW_ret, finW_pan, giveW, resultsA, tupA, fb_lss, fb_leq, fb_gtr, fb_geq, fb_add, fb_sub, fb_eqlI, fb_neqI, Nat.reduceLT, Nat.reduceAdd, Nat.reduceEqDiff, if_true, if_false, reduceIte, true_and, and_true, Option.getD_some, List.getElem?_toArray, List.getElem?_cons_succ, List.getElem?_cons_zero, Option.bind_some, List.nil_append, List.append_nil, beq_self_eq_true, Bool.false_eq_true, Bool.true_eq_false, decide_true, decide_false, Bool.not_true, Bool.not_false, Bool.false_beq, Bool.true_beq, Option.toList, List.head?_cons, List.head?_nil, app22, ld3, ld2, ld22, fa43_0, fa43_1, fa43_2, fa43_3, fa28_0, fa28_1, fa28_2, cellO_box, oExtract, get_put, put_next, get_newBox, newBox_next, lit22_1, lit22_0, AV.noTup, plBody, Try.f3, neNil4, fb_bool, eqOr_neqB, neqBO_bb, g2, g11, hlen, hlt, hlt2, hx, hep, g10, hld, g3, hf10]
      cases L with
      | nil =>
        refine WC.mono (refTake_no S hP.two room most hl) ?_
        rintro _ ⟨S1, rfl, k1⟩
        obtain ⟨S2, S3, e2, e3, hQ3, hb3, hp3, hn3⟩ := relayA (Nat.le_trans hP.two k1.1) (Nat.lt_of_lt_of_le hP.pn k1.1) (hQ.keep k1) (k1.2 _ _ hP.pn hp) l most
        obtain ⟨e4, S4, e5, hQ4, hp4, hn4⟩ := relayB hP.pq hP.pr hQ3 hp3 rfl l most hb3
        simp only [thenW_normal, thenW_exit, thenW_ret, thenW_pan, W_skip, W_region, W_drawn, W_seq, W_cond, W_block, W_loop, W_exit, W_ret, seqQ_normal2, seqQ_exit2, seqQ_ret2, seqQ_pan2, blockW_normal2, blockW_ret2, blockW_pan2, blockW_exit2, WL_nil2, WL_cons, execL_no, execL_val2, execL_skip2, execL_enter2, execL_pan2, putL_none2, putL_some2, retL_ret2, retL_pan2, condW_t2, condW_f2, WR_nil2, WR_op, WR_re2, execR_no, execR_val2, execR_skip2, execR_enter2, putRW_none2, putRW_some2, retRW_ret2, fixQ_normal2, wantedA, exec1, evalO, initT, T.get_set, T.get_leaf, callA, mapO, ofOpt, ofOptS, ofConst, e1_P, e1_G, partsA, neNil3, neNil2, finW_ret, finW_pan, giveW, resultsA, tupA, fb_lss, fb_leq, fb_gtr, fb_geq, fb_add, fb_sub, fb_eqlI, fb_neqI, Nat.reduceLT, Nat.reduceAdd, Nat.reduceEqDiff, if_true, if_false, reduceIte, true_and, and_true, Option.getD_some, List.getElem?_toArray, List.getElem?_cons_succ, List.getElem?_cons_zero, Option.bind_some, List.nil_append, List.append_nil, beq_self_eq_true, Bool.false_eq_true, Bool.true_eq_false, decide_true, decide_false, Bool.not_true, Bool.not_false, Bool.false_beq, Bool.true_beq, Option.toList, List.head?_cons, List.head?_nil, app22, ld3, ld2, ld22, fa43_0, fa43_1, fa43_2, fa43_3, fa28_0, fa28_1, fa28_2, cellO_box, oExtract, get_put, put_next, get_newBox, newBox_next, lit22_1, lit22_0, AV.noTup, plBody, Try.f3, neNil4, fb_bool, eqOr_neqB, neqBO_bb, al28, e2, e3, g9, hf11]
        refine WC.mono (take_no S3 q r room first most cs hQ3) ?_
        rintro _ rfl
        have e0 := neq_self (0 : Int)
        simp only [thenW_normal, thenW_exit, thenW_ret, thenW_pan, W_skip, W_region, W_drawn, W_seq, W_cond, W_block, W_loop, W_exit, W_ret, seqQ_normal2, seqQ_exit2, seqQ_ret2, seqQ_pan2, blockW_normal2, blockW_ret2, blockW_pan2, blockW_exit2, WL_nil2, WL_cons, execL_no, execL_val2, execL_skip2, execL_enter2, execL_pan2, putL_none2, putL_some2, retL_ret2, retL_pan2, condW_t2, condW_f2, WR_nil2, WR_op, WR_re2, execR_no, execR_val2, execR_skip2, execR_enter2, putRW_none2, putRW_some2, retRW_ret2, fixQ_normal2, wantedA, exec1, evalO, initT, T.get_set, T.get_leaf, callA, mapO, ofOpt, ofOptS, ofConst, e1_P, e1_G, partsA, neNil3, neNil2, finW_ret, finW_pan, giveW, resultsA, tupA, fb_lss, fb_leq, fb_gtr, fb_geq, fb_add, fb_sub, fb_eqlI, fb_neqI, Nat.reduceLT, Nat.reduceAdd, Nat.reduceEqDiff, if_true, if_false, reduceIte, true_and, and_true, Option.getD_some, List.getElem?_toArray, List.getElem?_cons_succ, List.getElem?_cons_zero, Option.bind_some, List.nil_append, List.append_nil, beq_self_eq_true, Bool.false_eq_true, Bool.true_eq_false, decide_true, decide_false, Bool.not_true, Bool.not_false, Bool.false_beq, Bool.true_beq, Option.toList, List.head?_cons, List.head?_nil, app22, ld3, ld2, ld22, fa43_0, fa43_1, fa43_2, fa43_3, fa28_0, fa28_1, fa28_2, cellO_box, oExtract, get_put, put_next, get_newBox, newBox_next, lit22_1, lit22_0, AV.noTup, plBody, Try.f3, neNil4, fb_bool, eqOr_neqB, neqBO_bb, g10, e4, e5, e0, ff_bne]
        have hP5 : Play S4 q r p room most [] := ⟨by rw [hn4, hn3]; exact Nat.le_succ_of_le (Nat.le_trans hP.two k1.1), hP.pq, hP.pr, by rw [hn4, hn3]; exact Nat.lt_succ_of_lt (Nat.lt_of_lt_of_le hP.pn k1.1), ⟨_, _, hQ4⟩, ⟨l, hl, hp4⟩⟩
        refine lk _ _ S4 hP5 _ ?_ ?_ _ (fun t2 S6 hP6 hk => ?_)
        · simp only [T.get_set, Nat.reduceEqDiff, if_true, if_false, g9]
        · simp only [T.get_set, Nat.reduceEqDiff, if_true, if_false, g10]
        have a11 := hk 11 (by decide)
        simp only [T.get_set, Nat.reduceEqDiff, if_true, if_false, g11] at a11
        simp only [thenW_normal, thenW_exit, thenW_ret, thenW_pan, W_skip, W_region, W_drawn, W_seq, W_cond, W_block, W_loop, W_exit, W_ret, seqQ_normal2, seqQ_exit2, seqQ_ret2, seqQ_pan2, blockW_normal2, blockW_ret2, blockW_pan2, blockW_exit2, WL_nil2, WL_cons, execL_no, execL_val2, execL_skip2, execL_enter2, execL_pan2, putL_none2, putL_some2, retL_ret2, retL_pan2, condW_t2, condW_f2, WR_nil2, WR_op, WR_re2, execR_no, execR_val2, execR_skip2, execR_enter2, putRW_none2, putRW_some2, retRW_ret2, fixQ_normal2, wantedA, exec1, evalO, initT, T.get_set, T.get_leaf, callA, mapO, ofOpt, ofOptS, ofConst, e1_P, e1_G, partsA, neNil3, neNil2, finW_ret, finW_pan, giveW, resultsA, tupA, fb_lss, fb_leq, fb_gtr, fb_geq, fb_add, fb_sub, fb_eqlI, fb_neqI, Nat.reduceLT, Nat.reduceAdd, Nat.reduceEqDiff, if_true, if_false, reduceIte, true_and, and_true, Option.getD_some, List.getElem?_toArray, List.getElem?_cons_succ, List.getElem?_cons_zero, Option.bind_some, List.nil_append, List.append_nil, beq_self_eq_true, Bool.false_eq_true, Bool.true_eq_false, decide_true, decide_false, Bool.not_true, Bool.not_false, Bool.false_beq, Bool.true_beq, Option.toList, List.head?_cons, List.head?_nil, app22, ld3, ld2, ld22, fa43_0, fa43_1, fa43_2, fa43_3, fa28_0, fa28_1, fa28_2, cellO_box, oExtract, get_put, put_next, get_newBox, newBox_next, lit22_1, lit22_0, AV.noTup, a11, hw]
        refine fin _ S4 _ _ hP5 ?_ ?_ ?_ ?_ ?_ t2 S6 hP6 hk
        · simp only [T.get_set, Nat.reduceEqDiff, if_true, if_false, g2]
        · simp only [T.get_set, Nat.reduceEqDiff, if_true, if_false, g3]
        · simp only [T.get_set, Nat.reduceEqDiff, if_true, if_false, g9]
        · simp only [T.get_set, Nat.reduceEqDiff, if_true, if_false, g10]
        · simp only [T.get_set, Nat.reduceEqDiff, if_true, if_false, g11]
      | cons a L =>
        refine WC.mono (refTake_yes S hP.two room most a L hl (by simp at hfit; omega)) ?_
        rintro _ ⟨l', S1, rfl, hl', k1⟩
        obtain ⟨S2, S3, e2, e3, hQ3, hb3, hp3, hn3⟩ := relayA (Nat.le_trans hP.two k1.1) (Nat.lt_of_lt_of_le hP.pn k1.1) (hQ.keep k1) (k1.2 _ _ hP.pn hp) l' most
        simp only [thenW_normal, thenW_exit, thenW_ret, thenW_pan, W_skip, W_region, W_drawn, W_seq, W_cond, W_block, W_loop, W_exit, W_ret, seqQ_normal2, seqQ_exit2, seqQ_ret2, seqQ_pan2, blockW_normal2, blockW_ret2, blockW_pan2, blockW_exit2, WL_nil2, WL_cons, execL_no, execL_val2, execL_skip2, execL_enter2, execL_pan2, putL_none2, putL_some2, retL_ret2, retL_pan2, condW_t2, condW_f2, WR_nil2, WR_op, WR_re2, execR_no, execR_val2, execR_skip2, execR_enter2, putRW_none2, putRW_some2, retRW_ret2, fixQ_normal2, wantedA, exec1, evalO, initT, T.get_set, T.get_leaf, callA, mapO, ofOpt, ofOptS, ofConst, e1_P, e1_G, partsA, neNil3, neNil2, finW_ret, finW_pan, giveW, resultsA, tupA, fb_lss, fb_leq, fb_gtr, fb_geq, fb_add, fb_sub, fb_eqlI, fb_neqI, Nat.reduceLT, Nat.reduceAdd, Nat.reduceEqDiff, if_true, if_false, reduceIte, true_and, and_true, Option.getD_some, List.getElem?_toArray, List.getElem?_cons_succ, List.getElem?_cons_zero, Option.bind_some, List.nil_append, List.append_nil, beq_self_eq_true, Bool.false_eq_true, Bool.true_eq_false, decide_true, decide_false, Bool.not_true, Bool.not_false, Bool.false_beq, Bool.true_beq, Option.toList, List.head?_cons, List.head?_nil, app22, ld3, ld2, ld22, fa43_0, fa43_1, fa43_2, fa43_3, fa28_0, fa28_1, fa28_2, cellO_box, oExtract, get_put, put_next, get_newBox, newBox_next, lit22_1, lit22_0, AV.noTup, plBody, Try.f3, neNil4, fb_bool, eqOr_neqB, neqBO_bb, al28, e2, e3, g9, hf11]
        refine WC.mono (take_yes S3 q r room first most cs a L hQ3) ?_
        rintro _ ⟨S5, rfl, hQ5, o5⟩
        have hbq : S1.next ≠ q := by have := hQ.q2; have := k1.1; omega
        have hbr : S1.next ≠ r := by have := hQ.r2; have := k1.1; omega
        obtain ⟨e4, S4, e5, hQ4, hp4, hn4⟩ := relayB hP.pq hP.pr hQ5 ((o5.2 p hP.pq hP.pr).trans hp3) rfl l' most ((o5.2 _ hbq hbr).trans hb3)
        have e0 := neq_self a
        simp only [thenW_normal, thenW_exit, thenW_ret, thenW_pan, W_skip, W_region, W_drawn, W_seq, W_cond, W_block, W_loop, W_exit, W_ret, seqQ_normal2, seqQ_exit2, seqQ_ret2, seqQ_pan2, blockW_normal2, blockW_ret2, blockW_pan2, blockW_exit2, WL_nil2, WL_cons, execL_no, execL_val2, execL_skip2, execL_enter2, execL_pan2, putL_none2, putL_some2, retL_ret2, retL_pan2, condW_t2, condW_f2, WR_nil2, WR_op, WR_re2, execR_no, execR_val2, execR_skip2, execR_enter2, putRW_none2, putRW_some2, retRW_ret2, fixQ_normal2, wantedA, exec1, evalO, initT, T.get_set, T.get_leaf, callA, mapO, ofOpt, ofOptS, ofConst, e1_P, e1_G, partsA, neNil3, neNil2, finW_ret, finW_pan, giveW, resultsA, tupA, fb_lss, fb_leq, fb_gtr, fb_geq, fb_add, fb_sub, fb_eqlI, fb_neqI, Nat.reduceLT, Nat.reduceAdd, Nat.reduceEqDiff, if_true, if_false, reduceIte, true_and, and_true, Option.getD_some, List.getElem?_toArray, List.getElem?_cons_succ, List.getElem?_cons_zero, Option.bind_some, List.nil_append, List.append_nil, beq_self_eq_true, Bool.false_eq_true, Bool.true_eq_false, decide_true, decide_false, Bool.not_true, Bool.not_false, Bool.false_beq, Bool.true_beq, Option.toList, List.head?_cons, List.head?_nil, app22, ld3, ld2, ld22, fa43_0, fa43_1, fa43_2, fa43_3, fa28_0, fa28_1, fa28_2, cellO_box, oExtract, get_put, put_next, get_newBox, newBox_next, lit22_1, lit22_0, AV.noTup, plBody, Try.f3, neNil4, fb_bool, eqOr_neqB, neqBO_bb, g10, e4, e5, e0, tt_bne]
        have hP5 : Play S4 q r p room most L := ⟨by rw [hn4, o5.1, hn3]; exact Nat.le_succ_of_le (Nat.le_trans hP.two k1.1), hP.pq, hP.pr, by rw [hn4, o5.1, hn3]; exact Nat.lt_succ_of_lt (Nat.lt_of_lt_of_le hP.pn k1.1), ⟨_, _, hQ4⟩, ⟨l', hl', hp4⟩⟩
        refine lk _ _ S4 hP5 _ ?_ ?_ _ (fun t2 S6 hP6 hk => ?_)
        · simp only [T.get_set, Nat.reduceEqDiff, if_true, if_false, g9]
        · simp only [T.get_set, Nat.reduceEqDiff, if_true, if_false, g10]
        have a11 := hk 11 (by decide)
        simp only [T.get_set, Nat.reduceEqDiff, if_true, if_false, g11] at a11
        simp only [thenW_normal, thenW_exit, thenW_ret, thenW_pan, W_skip, W_region, W_drawn, W_seq, W_cond, W_block, W_loop, W_exit, W_ret, seqQ_normal2, seqQ_exit2, seqQ_ret2, seqQ_pan2, blockW_normal2, blockW_ret2, blockW_pan2, blockW_exit2, WL_nil2, WL_cons, execL_no, execL_val2, execL_skip2, execL_enter2, execL_pan2, putL_none2, putL_some2, retL_ret2, retL_pan2, condW_t2, condW_f2, WR_nil2, WR_op, WR_re2, execR_no, execR_val2, execR_skip2, execR_enter2, putRW_none2, putRW_some2, retRW_ret2, fixQ_normal2, wantedA, exec1, evalO, initT, T.get_set, T.get_leaf, callA, mapO, ofOpt, ofOptS, ofConst, e1_P, e1_G, partsA, neNil3, neNil2, finW_ret, finW_pan, giveW, resultsA, tupA, fb_lss, fb_leq, fb_gtr, fb_geq, fb_add, fb_sub, fb_eqlI, fb_neqI, Nat.reduceLT, Nat.reduceAdd, Nat.reduceEqDiff, if_true, if_false, reduceIte, true_and, and_true, Option.getD_some, List.getElem?_toArray, List.getElem?_cons_succ, List.getElem?_cons_zero, Option.bind_some, List.nil_append, List.append_nil, beq_self_eq_true, Bool.false_eq_true, Bool.true_eq_false, decide_true, decide_false, Bool.not_true, Bool.not_false, Bool.false_beq, Bool.true_beq, Option.toList, List.head?_cons, List.head?_nil, app22, ld3, ld2, ld22, fa43_0, fa43_1, fa43_2, fa43_3, fa28_0, fa28_1, fa28_2, cellO_box, oExtract, get_put, put_next, get_newBox, newBox_next, lit22_1, lit22_0, AV.noTup, a11, hw]
        refine fin _ S4 _ _ hP5 ?_ ?_ ?_ ?_ ?_ t2 S6 hP6 hk
        · simp only [T.get_set, Nat.reduceEqDiff, if_true, if_false, g2]
        · simp only [T.get_set, Nat.reduceEqDiff, if_true, if_false, g3]
        · simp only [T.get_set, Nat.reduceEqDiff, if_true, if_false, g9]
        · simp only [T.get_set, Nat.reduceEqDiff, if_true, if_false, g10]
        · simp only [T.get_set, Nat.reduceEqDiff, if_true, if_false, g11]
set_option maxHeartbeats 16000000 in
theorem queuePlays_w (room v : Int) {av pv : AV} {L : List Int} {B : List Bool} (hv : rowIs av L) (hB : rowBl pv B) (S : St) (h2 : 2 ≤ S.next) : WC E1 3 [.v (.int .i64 room), av, pv, .v (.int .i64 v)] S (fun x => ∃ S', x = .ret (.v (.bool true)) S') := by
  refine WC_fn Try.f3 (by kernel_rfl) (by kernel_rfl) (by kernel_rfl) (show (_ : Nat) ≤ _ from by show (_ : Nat) ≤ _; simp [Try.f3]) ?_
  obtain ⟨fn5, hf5⟩ := fnOk5
  obtain ⟨fn6, hf6⟩ := fnOk6
  obtain ⟨fn7, hf7⟩ := fnOk7
  obtain ⟨fn15, hf15⟩ := fnOk15
  obtain ⟨fn16, hf16⟩ := fnOk16
  have key := fun q r p room t S most L h2 h3 h9 h10 h11 hP => plays_loop q r p room pv B hB v B.length 0 t S most L (by omega) h2 h3 h9 h10 h11 hP
  unfold plBody at key
  simp only [Try.f3] at key
  simp only [thenW_normal, thenW_exit, thenW_ret, thenW_pan, W_skip, W_region, W_drawn, W_seq, W_cond, W_block, W_loop, W_exit, W_ret, seqQ_normal2, seqQ_exit2, seqQ_ret2, seqQ_pan2, blockW_normal2, blockW_ret2, blockW_pan2, blockW_exit2, WL_nil2, WL_cons, execL_no, execL_val2, execL_skip2, execL_enter2, execL_pan2, putL_none2, putL_some2, retL_ret2, retL_pan2, condW_t2, condW_f2, WR_nil2, WR_op, WR_re2, execR_no, execR_val2, execR_skip2, execR_enter2, putRW_none2, putRW_some2, retRW_ret2, fixQ_normal2, wantedA, exec1, evalO, initT, T.get_set, T.get_leaf, callA, mapO, ofOpt, ofOptS, ofConst, e1_P, e1_G, partsA, neNil3, neNil2, finW_ret, finW_pan, giveW, resultsA, tupA, fb_lss, fb_leq, fb_gtr, fb_geq, fb_add, fb_sub, fb_eqlI, fb_neqI, Nat.reduceLT, Nat.reduceAdd, Nat.reduceEqDiff, if_true, if_false, reduceIte, true_and, and_true, Option.getD_some, List.getElem?_toArray, List.getElem?_cons_succ, List.getElem?_cons_zero, Option.bind_some, List.nil_append, List.append_nil, beq_self_eq_true, Bool.false_eq_true, Bool.true_eq_false, decide_true, decide_false, Bool.not_true, Bool.not_false, Bool.false_beq, Bool.true_beq, Option.toList, List.head?_cons, List.head?_nil, app22, ld3, ld2, ld22, fa43_0, fa43_1, fa43_2, fa43_3, fa28_0, fa28_1, fa28_2, cellO_box, oExtract, get_put, put_next, get_newBox, newBox_next, lit22_1, lit22_0, AV.noTup, Try.f3, hf5]
  refine WC.mono (awake_w S h2) ?_
  rintro _ ⟨S1, rfl, h21⟩
  have hlen := fun S => len22 S hv
  obtain ⟨k, hk⟩ : ∃ k, k = min L.length 10 := ⟨_, rfl⟩
  have hmin : (if (10 : Int) < (L.length : Int) then (10 : Int) else (L.length : Int)) = (k : Int) := by split <;> omega
  obtain ⟨lv, hsl, hlv⟩ := slTo hv k (by omega)
  have hlvl : (L.take k).length = k := by simp; omega
  generalize L.take k = M at hlv hlvl
  obtain ⟨rm, hrm⟩ : ∃ rm : Int, rm = (if 50 < room then 50 else room) := ⟨_, rfl⟩
  have hrm50 : rm ≤ 50 := by rw [hrm]; split <;> omega
  rcases hv with ⟨rfl, rfl⟩ | ⟨tok, off, rfl⟩
  all_goals
    simp only [thenW_normal, thenW_exit, thenW_ret, thenW_pan, W_skip, W_region, W_drawn, W_seq, W_cond, W_block, W_loop, W_exit, W_ret, seqQ_normal2, seqQ_exit2, seqQ_ret2, seqQ_pan2, blockW_normal2, blockW_ret2, blockW_pan2, blockW_exit2, WL_nil2, WL_cons, execL_no, execL_val2, execL_skip2, execL_enter2, execL_pan2, putL_none2, putL_some2, retL_ret2, retL_pan2, condW_t2, condW_f2, WR_nil2, WR_op, WR_re2, execR_no, execR_val2, execR_skip2, execR_enter2, putRW_none2, putRW_some2, retRW_ret2, fixQ_normal2, wantedA, exec1, evalO, initT, T.get_set, T.get_leaf, callA, mapO, ofOpt, ofOptS, ofConst, e1_P, e1_G, partsA, neNil3, neNil2, finW_ret, finW_pan, giveW, resultsA, tupA, fb_lss, fb_leq, fb_gtr, fb_geq, fb_add, fb_sub, fb_eqlI, fb_neqI, Nat.reduceLT, Nat.reduceAdd, Nat.reduceEqDiff, if_true, if_false, reduceIte, true_and, and_true, Option.getD_some, List.getElem?_toArray, List.getElem?_cons_succ, List.getElem?_cons_zero, Option.bind_some, List.nil_append, List.append_nil, beq_self_eq_true, Bool.false_eq_true, Bool.true_eq_false, decide_true, decide_false, Bool.not_true, Bool.not_false, Bool.false_beq, Bool.true_beq, Option.toList, List.head?_cons, List.head?_nil, app22, ld3, ld2, ld22, fa43_0, fa43_1, fa43_2, fa43_3, fa28_0, fa28_1, fa28_2, cellO_box, oExtract, get_put, put_next, get_newBox, newBox_next, lit22_1, lit22_0, AV.noTup, Try.f3, ground_not, notO_bool, gMin50, gMin50O_i, ← hrm, hlen, gMin10, gMin10O_i, hmin, hsl, hf6]
    refine WC.mono (new_w S1 h21 rm hrm50 hlv (by omega)) ?_
    rintro _ ⟨cs, S2, rfl, hQ, k1⟩
    have h22 : 2 ≤ S2.next := Nat.le_trans h21 k1.1
    simp only [thenW_normal, thenW_exit, thenW_ret, thenW_pan, W_skip, W_region, W_drawn, W_seq, W_cond, W_block, W_loop, W_exit, W_ret, seqQ_normal2, seqQ_exit2, seqQ_ret2, seqQ_pan2, blockW_normal2, blockW_ret2, blockW_pan2, blockW_exit2, WL_nil2, WL_cons, execL_no, execL_val2, execL_skip2, execL_enter2, execL_pan2, putL_none2, putL_some2, retL_ret2, retL_pan2, condW_t2, condW_f2, WR_nil2, WR_op, WR_re2, execR_no, execR_val2, execR_skip2, execR_enter2, putRW_none2, putRW_some2, retRW_ret2, fixQ_normal2, wantedA, exec1, evalO, initT, T.get_set, T.get_leaf, callA, mapO, ofOpt, ofOptS, ofConst, e1_P, e1_G, partsA, neNil3, neNil2, finW_ret, finW_pan, giveW, resultsA, tupA, fb_lss, fb_leq, fb_gtr, fb_geq, fb_add, fb_sub, fb_eqlI, fb_neqI, Nat.reduceLT, Nat.reduceAdd, Nat.reduceEqDiff, if_true, if_false, reduceIte, true_and, and_true, Option.getD_some, List.getElem?_toArray, List.getElem?_cons_succ, List.getElem?_cons_zero, Option.bind_some, List.nil_append, List.append_nil, beq_self_eq_true, Bool.false_eq_true, Bool.true_eq_false, decide_true, decide_false, Bool.not_true, Bool.not_false, Bool.false_beq, Bool.true_beq, Option.toList, List.head?_cons, List.head?_nil, app22, ld3, ld2, ld22, fa43_0, fa43_1, fa43_2, fa43_3, fa28_0, fa28_1, fa28_2, cellO_box, oExtract, get_put, put_next, get_newBox, newBox_next, lit22_1, lit22_0, AV.noTup, Try.f3, hf7]
    refine WC.mono (refNew_w S2 h22 rm hrm50 hlv (by omega)) ?_
    rintro _ ⟨l, S3, rfl, hl, k2⟩
    have hQ3 := hQ.keep k2
    have h23 : 2 ≤ S3.next := Nat.le_trans h22 k2.1
    have g4 : (S3.newBox [.nils, .v (.int .i64 0), .v (.int .i64 0)]).mem.get S3.next = some (.box [.nils, .v (.int .i64 0), .v (.int .i64 0)]) := by rw [get_newBox, if_pos rfl]
    have st := st28 _ S3.next l (.v (.int .i64 ((max (max rm.toNat M.length) 1 : Nat) : Int))) (.v (.int .i64 ((M.length : Nat) : Int))) _ _ _ g4
    generalize hS4 : S3.newBox [.nils, .v (.int .i64 0), .v (.int .i64 0)] = S4 at st g4
    generalize hS5 : S4.put S3.next [l, .v (.int .i64 ((max (max rm.toNat M.length) 1 : Nat) : Int)), .v (.int .i64 ((M.length : Nat) : Int))] = S5 at st
    have hn5 : S5.next = S3.next + 1 := by rw [← hS5, ← hS4]; rfl
    have hpq : S3.next ≠ S1.next + 1 := by have := hQ3.q2; omega
    have hpr : S3.next ≠ S1.next := by have := hQ3.r2; omega
    have hQ5 := (hQ3.keep (keepB_new S3 [.nils, .v (.int .i64 0), .v (.int .i64 0)])).put (p := S3.next) hpq hpr [l, .v (.int .i64 ((max (max rm.toNat M.length) 1 : Nat) : Int)), .v (.int .i64 ((M.length : Nat) : Int))]
    rw [hS4, hS5] at hQ5
    have hP : Play S5 (S1.next + 1) S1.next S3.next (max (max rm.toNat M.length) 1) M.length M := by
      refine ⟨by omega, hpq, hpr, by omega, ⟨_, _, hQ5⟩, ⟨l, hl, ?_⟩⟩
      · rw [← hS5, get_put, if_pos rfl]; rfl
    unfold RefQ
    simp only [thenW_normal, thenW_exit, thenW_ret, thenW_pan, W_skip, W_region, W_drawn, W_seq, W_cond, W_block, W_loop, W_exit, W_ret, seqQ_normal2, seqQ_exit2, seqQ_ret2, seqQ_pan2, blockW_normal2, blockW_ret2, blockW_pan2, blockW_exit2, WL_nil2, WL_cons, execL_no, execL_val2, execL_skip2, execL_enter2, execL_pan2, putL_none2, putL_some2, retL_ret2, retL_pan2, condW_t2, condW_f2, WR_nil2, WR_op, WR_re2, execR_no, execR_val2, execR_skip2, execR_enter2, putRW_none2, putRW_some2, retRW_ret2, fixQ_normal2, wantedA, exec1, evalO, initT, T.get_set, T.get_leaf, callA, mapO, ofOpt, ofOptS, ofConst, e1_P, e1_G, partsA, neNil3, neNil2, finW_ret, finW_pan, giveW, resultsA, tupA, fb_lss, fb_leq, fb_gtr, fb_geq, fb_add, fb_sub, fb_eqlI, fb_neqI, Nat.reduceLT, Nat.reduceAdd, Nat.reduceEqDiff, if_true, if_false, reduceIte, true_and, and_true, Option.getD_some, List.getElem?_toArray, List.getElem?_cons_succ, List.getElem?_cons_zero, Option.bind_some, List.nil_append, List.append_nil, beq_self_eq_true, Bool.false_eq_true, Bool.true_eq_false, decide_true, decide_false, Bool.not_true, Bool.not_false, Bool.false_beq, Bool.true_beq, Option.toList, List.head?_cons, List.head?_nil, app22, ld3, ld2, ld22, fa43_0, fa43_1, fa43_2, fa43_3, fa28_0, fa28_1, fa28_2, cellO_box, oExtract, get_put, put_next, get_newBox, newBox_next, lit22_1, lit22_0, AV.noTup, Try.f3, al28, hS4, st]
    refine WX.mono (key _ _ _ _ _ S5 _ _ ?_ ?_ ?_ ?_ ?_ hP) ?_
    · simp only [T.get_set, Nat.reduceEqDiff, if_true, if_false]
    · simp only [T.get_set, Nat.reduceEqDiff, if_true, if_false]
    · simp only [T.get_set, Nat.reduceEqDiff, if_true, if_false]
    · simp only [T.get_set, Nat.reduceEqDiff, if_true, if_false]
    · simp only [T.get_set, Nat.reduceEqDiff, if_true, if_false]; rfl
    rintro o ⟨t', S6, most', L', rfl, g9, g10, hP6⟩
    obtain ⟨first6, cs6, hQ6⟩ := hP6.queue
    obtain ⟨l6, hl6, hp6⟩ := hP6.ref
    unfold RefQ at hp6
    simp only [thenW_normal, thenW_exit, thenW_ret, thenW_pan, W_skip, W_region, W_drawn, W_seq, W_cond, W_block, W_loop, W_exit, W_ret, seqQ_normal2, seqQ_exit2, seqQ_ret2, seqQ_pan2, blockW_normal2, blockW_ret2, blockW_pan2, blockW_exit2, WL_nil2, WL_cons, execL_no, execL_val2, execL_skip2, execL_enter2, execL_pan2, putL_none2, putL_some2, retL_ret2, retL_pan2, condW_t2, condW_f2, WR_nil2, WR_op, WR_re2, execR_no, execR_val2, execR_skip2, execR_enter2, putRW_none2, putRW_some2, retRW_ret2, fixQ_normal2, wantedA, exec1, evalO, initT, T.get_set, T.get_leaf, callA, mapO, ofOpt, ofOptS, ofConst, e1_P, e1_G, partsA, neNil3, neNil2, finW_ret, finW_pan, giveW, resultsA, tupA, fb_lss, fb_leq, fb_gtr, fb_geq, fb_add, fb_sub, fb_eqlI, fb_neqI, Nat.reduceLT, Nat.reduceAdd, Nat.reduceEqDiff, if_true, if_false, reduceIte, true_and, and_true, Option.getD_some, List.getElem?_toArray, List.getElem?_cons_succ, List.getElem?_cons_zero, Option.bind_some, List.nil_append, List.append_nil, beq_self_eq_true, Bool.false_eq_true, Bool.true_eq_false, decide_true, decide_false, Bool.not_true, Bool.not_false, Bool.false_beq, Bool.true_beq, Option.toList, List.head?_cons, List.head?_nil, app22, ld3, ld2, ld22, fa43_0, fa43_1, fa43_2, fa43_3, fa28_0, fa28_1, fa28_2, cellO_box, oExtract, get_put, put_next, get_newBox, newBox_next, lit22_1, lit22_0, AV.noTup, Try.f3]
    refine WD_by [(0, true), (2, true), (3, true), (1, true), (3, false), (4, true), (5, true), (6, true), (8, true), (9, true), (7, true), (9, false), (10, true), (11, true), (12, true)] (by kernel_rfl) (by kernel_rfl) ?_
    simp only [thenW_normal, thenW_exit, thenW_ret, thenW_pan, W_skip, W_region, W_drawn, W_seq, W_cond, W_block, W_loop, W_exit, W_ret, seqQ_normal2, seqQ_exit2, seqQ_ret2, seqQ_pan2, blockW_normal2, blockW_ret2, blockW_pan2, blockW_exit2, WL_nil2, WL_cons, execL_no, execL_val2, execL_skip2, execL_enter2, execL_pan2, putL_none2, putL_some2, retL_ret2, retL_pan2, condW_t2, condW_f2, WR_nil2, WR_op, WR_re2, execR_no, execR_val2, execR_skip2, execR_enter2, putRW_none2, putRW_some2, retRW_ret2, fixQ_normal2, wantedA, exec1, evalO, initT, T.get_set, T.get_leaf, callA, mapO, ofOpt, ofOptS, ofConst, e1_P, e1_G, partsA, neNil3, neNil2, finW_ret, finW_pan, giveW, resultsA, tupA, fb_lss, fb_leq, fb_gtr, fb_geq, fb_add, fb_sub, fb_eqlI, fb_neqI, Nat.reduceLT, Nat.reduceAdd, Nat.reduceEqDiff, if_true, if_false, reduceIte, true_and, and_true, Option.getD_some, List.getElem?_toArray, List.getElem?_cons_succ, List.getElem?_cons_zero, Option.bind_some, List.nil_append, List.append_nil, beq_self_eq_true, Bool.false_eq_true, Bool.true_eq_false, decide_true, decide_false, Bool.not_true, Bool.not_false, Bool.false_beq, Bool.true_beq, Option.toList, List.head?_cons, List.head?_nil, app22, ld3, ld2, ld22, fa43_0, fa43_1, fa43_2, fa43_3, fa28_0, fa28_1, fa28_2, cellO_box, oExtract, get_put, put_next, get_newBox, newBox_next, lit22_1, lit22_0, AV.noTup, Try.f3, rsOf, againO, lookV, beqA_int, beqA_ptr, beqA_bs, g9, g10, hp6, hf15]
    refine WC.mono (room_w S6 _ _ _ _ _ _ hQ6.hq) ?_
    rintro _ rfl
    have e2 := beq_self_eq_true (((max (max rm.toNat M.length) 1 : Nat) : Int))
    simp only [thenW_normal, thenW_exit, thenW_ret, thenW_pan, W_skip, W_region, W_drawn, W_seq, W_cond, W_block, W_loop, W_exit, W_ret, seqQ_normal2, seqQ_exit2, seqQ_ret2, seqQ_pan2, blockW_normal2, blockW_ret2, blockW_pan2, blockW_exit2, WL_nil2, WL_cons, execL_no, execL_val2, execL_skip2, execL_enter2, execL_pan2, putL_none2, putL_some2, retL_ret2, retL_pan2, condW_t2, condW_f2, WR_nil2, WR_op, WR_re2, execR_no, execR_val2, execR_skip2, execR_enter2, putRW_none2, putRW_some2, retRW_ret2, fixQ_normal2, wantedA, exec1, evalO, initT, T.get_set, T.get_leaf, callA, mapO, ofOpt, ofOptS, ofConst, e1_P, e1_G, partsA, neNil3, neNil2, finW_ret, finW_pan, giveW, resultsA, tupA, fb_lss, fb_leq, fb_gtr, fb_geq, fb_add, fb_sub, fb_eqlI, fb_neqI, Nat.reduceLT, Nat.reduceAdd, Nat.reduceEqDiff, if_true, if_false, reduceIte, true_and, and_true, Option.getD_some, List.getElem?_toArray, List.getElem?_cons_succ, List.getElem?_cons_zero, Option.bind_some, List.nil_append, List.append_nil, beq_self_eq_true, Bool.false_eq_true, Bool.true_eq_false, decide_true, decide_false, Bool.not_true, Bool.not_false, Bool.false_beq, Bool.true_beq, Option.toList, List.head?_cons, List.head?_nil, app22, ld3, ld2, ld22, fa43_0, fa43_1, fa43_2, fa43_3, fa28_0, fa28_1, fa28_2, cellO_box, oExtract, get_put, put_next, get_newBox, newBox_next, lit22_1, lit22_0, AV.noTup, Try.f3, rsOf, againO, lookV, beqA_int, beqA_ptr, beqA_bs, g9, g10, hp6, e2, hf16]
    refine WC.mono (most_w S6 _ _ _ _ _ _ hQ6.hq) ?_
    rintro _ rfl
    have e3 := beq_self_eq_true (most' : Int)
    simp only [thenW_normal, thenW_exit, thenW_ret, thenW_pan, W_skip, W_region, W_drawn, W_seq, W_cond, W_block, W_loop, W_exit, W_ret, seqQ_normal2, seqQ_exit2, seqQ_ret2, seqQ_pan2, blockW_normal2, blockW_ret2, blockW_pan2, blockW_exit2, WL_nil2, WL_cons, execL_no, execL_val2, execL_skip2, execL_enter2, execL_pan2, putL_none2, putL_some2, retL_ret2, retL_pan2, condW_t2, condW_f2, WR_nil2, WR_op, WR_re2, execR_no, execR_val2, execR_skip2, execR_enter2, putRW_none2, putRW_some2, retRW_ret2, fixQ_normal2, wantedA, exec1, evalO, initT, T.get_set, T.get_leaf, callA, mapO, ofOpt, ofOptS, ofConst, e1_P, e1_G, partsA, neNil3, neNil2, finW_ret, finW_pan, giveW, resultsA, tupA, fb_lss, fb_leq, fb_gtr, fb_geq, fb_add, fb_sub, fb_eqlI, fb_neqI, Nat.reduceLT, Nat.reduceAdd, Nat.reduceEqDiff, if_true, if_false, reduceIte, true_and, and_true, Option.getD_some, List.getElem?_toArray, List.getElem?_cons_succ, List.getElem?_cons_zero, Option.bind_some, List.nil_append, List.append_nil, beq_self_eq_true, Bool.false_eq_true, Bool.true_eq_false, decide_true, decide_false, Bool.not_true, Bool.not_false, Bool.false_beq, Bool.true_beq, Option.toList, List.head?_cons, List.head?_nil, app22, ld3, ld2, ld22, fa43_0, fa43_1, fa43_2, fa43_3, fa28_0, fa28_1, fa28_2, cellO_box, oExtract, get_put, put_next, get_newBox, newBox_next, lit22_1, lit22_0, AV.noTup, Try.f3, rsOf, againO, lookV, beqA_int, beqA_ptr, beqA_bs, g9, g10, hp6, e3]
    exact ⟨S6, rfl⟩
end Go.Ax
