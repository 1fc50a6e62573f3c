/-
  The queue: New, List; lists alike.
-/
import Derived.Test.YtoocolbgoaaeaaaQQa
noncomputable section
namespace Go.Ax
open Go.RowKit Go.Proofs
set_option linter.unusedVariables false
set_option linter.unusedSimpArgs false
set_option maxRecDepth 100000

-- New
theorem repA_int (a : AV) : ∀ n, repA [a] n = List.replicate n a
  | 0 => rfl
  | n + 1 => by show [a] ++ repA [a] n = _; rw [repA_int a n]; rfl
theorem mk22 (S : St) (n : Nat) (h0 : 0 < n) (h : n ≤ 1000000) : oMake Try.prog S 22 (.v (.int .i64 (n : Int))) (.v (.int .i64 (n : Int))) = some (.bs S.next 0 n 1, S.newBox (List.replicate n (.v (.int .i64 0)))) := by
  obtain ⟨i, hi, hz0, hz1, hz2⟩ := infoG_parts i2
  have hc : ofConst 8 (.int .i64 0) = some (.v (.int .i64 0)) := rfl
  unfold oMake
  simp only [u22, hi, hz0, hc, hz1, hz2]
  rw [if_pos ⟨by omega, Int.le_refl _, by omega, by omega, rfl, rfl, by decide⟩, if_neg (by omega)]
  simp only [Int.toNat_natCast, AV.cells, repA_int]
theorem bld43 (r n c m : Nat) : oBuild Try.prog 43 [(0, .bs r 0 n 1), (2, .v (.int .i64 (c : Int))), (3, .v (.int .i64 (m : Int)))] = some (.agg (QB r n 0 c m)) := by kernel_rfl
theorem cp22 (S : St) {v : AV} {L : List Int} (h : rowIs v L) (r n : Nat) (cs : List AV) (hm : S.mem.get r = some (.box cs)) (hl : L.length ≤ n) (hn : n ≤ cs.length) (h0 : L ≠ []) :
    oCopy Try.prog S 22 (.bs r 0 n 1) v = some (.v (.int .i64 (L.length : Int)), S.put r (L.map i64A ++ cs.drop L.length)) := by
  have hi : (Try.prog.info? 2).map (·.size) = some 1 := by kernel_rfl
  have hr : rowA v = some (L.map i64A) := by rcases h with ⟨rfl, rfl⟩ | ⟨tok, off, rfl⟩ <;> rfl
  unfold oCopy
  simp only [e22, hi, if_true, hr, hm, List.length_map]
  have hmin : min L.length n = L.length := Nat.min_eq_left hl
  rw [hmin, if_pos (by omega), if_neg (by intro e; exact h0 (List.eq_nil_of_length_eq_zero e))]
  simp only [List.take_zero, List.nil_append, Nat.zero_add, flat_int]
  rw [List.take_of_length_le (by simp)]
  rfl
theorem cp22n (S : St) {v : AV} (h : rowIs v []) (r n : Nat) (cs : List AV) (hm : S.mem.get r = some (.box cs)) : oCopy Try.prog S 22 (.bs r 0 n 1) v = some (.v (.int .i64 0), S) := by
  have hi : (Try.prog.info? 2).map (·.size) = some 1 := by kernel_rfl
  have hr : rowA v = some [] := by rcases h with ⟨rfl, _⟩ | ⟨tok, off, rfl⟩ <;> rfl
  unfold oCopy
  simp only [e22, hi, if_true, hr, hm, List.length_nil, Nat.zero_min, Nat.add_zero, Nat.zero_le]
set_option maxHeartbeats 8000000 in
theorem new_w (S : St) (h2 : 2 ≤ S.next) (room : Int) (hroom : room ≤ 50) {v : AV} {L : List Int} (hv : rowIs v L) (hl : L.length ≤ 50) :
    WC E1 6 [.v (.int .i64 room), v] S (fun x => ∃ cs S', x = .ret (.ptr (S.next + 1) 0) S' ∧ QAt S' (S.next + 1) S.next (max (max room.toNat L.length) 1) 0 L.length cs L ∧ Keep S S') := by
  refine WC_fn Try.f6 (by kernel_rfl) (by kernel_rfl) (by kernel_rfl) (show (_ : Nat) ≤ _ from by show (_ : Nat) ≤ _; simp [Try.f6]) ?_
  have hlen := fun S => len22 S hv
  obtain ⟨n, hn⟩ : ∃ n, n = max (max room.toNat L.length) 1 := ⟨_, rfl⟩
  rw [← hn]
  have hmx : (if 1 > (if (L.length : Int) > room then (L.length : Int) else room) then 1 else (if (L.length : Int) > room then (L.length : Int) else room)) = (n : Int) := by
    split <;> split <;> omega
  have hmk := mk22 S n (by omega) (by omega)
  generalize hcs : List.replicate n (AV.v (.int .i64 0)) = cs0 at hmk
  have hcl : cs0.length = n := by rw [← hcs]; simp
  have hb := bld43 S.next n L.length L.length
  generalize hS1 : S.newBox cs0 = S1 at hmk
  have hn1 : S1.next = S.next + 1 := by rw [← hS1]; rfl
  have hr1 : S1.mem.get S.next = some (.box cs0) := by rw [← hS1, get_newBox, if_pos rfl]
  have k1 : Keep S S1 := by rw [← hS1]; exact keep_new _ _
  have hnt : (AV.agg (QB S.next n 0 L.length L.length)).noTup = true := rfl
  have hac : (AV.agg (QB S.next n 0 L.length L.length)).cells = QB S.next n 0 L.length L.length := rfl
  generalize hS2 : S1.newBox (QB S.next n 0 L.length L.length) = S2
  have hn2 : S2.next = S.next + 2 := by rw [← hS2, newBox_next, hn1]
  have hq2 : S2.mem.get (S.next + 1) = some (.box (QB S.next n 0 L.length L.length)) := by rw [← hS2, get_newBox, hn1, if_pos rfl]
  have hr2 : S2.mem.get S.next = some (.box cs0) := by rw [← hS2, get_newBox, hn1, if_neg (by omega)]; exact hr1
  have k2 : Keep S S2 := k1.trans (by rw [← hS2]; exact keep_new _ _)
  have hq3 := hq2
  unfold QB at hq3
  by_cases hL : L = []
  · subst hL
    have hcp := cp22n S2 hv S.next n cs0 hr2
    simp only [thenW_normal, thenW_exit, thenW_ret, thenW_pan, W_skip, W_region, W_drawn, W_seq, W_cond, W_block, W_loop, W_exit, W_ret, seqQ_normal2, seqQ_exit2, seqQ_ret2, seqQ_pan2, blockW_normal2, blockW_ret2, blockW_pan2, blockW_exit2, WL_nil2, WL_cons, execL_no, execL_val2, execL_skip2, execL_enter2, execL_pan2, putL_none2, putL_some2, retL_ret2, retL_pan2, condW_t2, condW_f2, WR_nil2, WR_op, WR_re2, execR_no, execR_val2, execR_skip2, execR_enter2, putRW_none2, putRW_some2, retRW_ret2, fixQ_normal2, wantedA, exec1, evalO, initT, T.get_set, T.get_leaf, callA, mapO, ofOpt, ofOptS, ofConst, e1_P, e1_G, partsA, neNil3, neNil2, finW_ret, finW_pan, giveW, resultsA, tupA, fb_lss, fb_leq, fb_gtr, fb_geq, fb_add, fb_sub, fb_eqlI, fb_neqI, Nat.reduceLT, Nat.reduceAdd, Nat.reduceEqDiff, if_true, if_false, reduceIte, true_and, and_true, Option.getD_some, List.getElem?_toArray, List.getElem?_cons_succ, List.getElem?_cons_zero, Option.bind_some, List.nil_append, List.append_nil, beq_self_eq_true, Bool.false_eq_true, Bool.true_eq_false, decide_true, decide_false, Bool.not_true, Bool.not_false, Bool.false_beq, Bool.true_beq, Option.toList, List.head?_cons, List.head?_nil, app22, ld3, ld2, ld22, fa43_0, fa43_1, fa43_2, fa43_3, fa28_0, fa28_1, fa28_2, cellO_box, oExtract, get_put, put_next, get_newBox, newBox_next, lit22_1, lit22_0, AV.noTup, Try.f6, hlen, gMaxA, gMaxAO_i, hmx, hmk, hb, hnt, hac, hS2, hn1, hq3, hcp]
    refine ⟨cs0, S2, rfl, ⟨by omega, hq2, hr2, hcl, by omega, by simp, by omega, by simp, by omega, by omega, fun i hi => by simp at hi⟩, k2⟩
  · have hcp := cp22 S2 hv S.next n cs0 hr2 (by omega) (by omega) hL
    generalize hS3 : S2.put S.next (L.map i64A ++ cs0.drop L.length) = S3 at hcp
    simp only [thenW_normal, thenW_exit, thenW_ret, thenW_pan, W_skip, W_region, W_drawn, W_seq, W_cond, W_block, W_loop, W_exit, W_ret, seqQ_normal2, seqQ_exit2, seqQ_ret2, seqQ_pan2, blockW_normal2, blockW_ret2, blockW_pan2, blockW_exit2, WL_nil2, WL_cons, execL_no, execL_val2, execL_skip2, execL_enter2, execL_pan2, putL_none2, putL_some2, retL_ret2, retL_pan2, condW_t2, condW_f2, WR_nil2, WR_op, WR_re2, execR_no, execR_val2, execR_skip2, execR_enter2, putRW_none2, putRW_some2, retRW_ret2, fixQ_normal2, wantedA, exec1, evalO, initT, T.get_set, T.get_leaf, callA, mapO, ofOpt, ofOptS, ofConst, e1_P, e1_G, partsA, neNil3, neNil2, finW_ret, finW_pan, giveW, resultsA, tupA, fb_lss, fb_leq, fb_gtr, fb_geq, fb_add, fb_sub, fb_eqlI, fb_neqI, Nat.reduceLT, Nat.reduceAdd, Nat.reduceEqDiff, if_true, if_false, reduceIte, true_and, and_true, Option.getD_some, List.getElem?_toArray, List.getElem?_cons_succ, List.getElem?_cons_zero, Option.bind_some, List.nil_append, List.append_nil, beq_self_eq_true, Bool.false_eq_true, Bool.true_eq_false, decide_true, decide_false, Bool.not_true, Bool.not_false, Bool.false_beq, Bool.true_beq, Option.toList, List.head?_cons, List.head?_nil, app22, ld3, ld2, ld22, fa43_0, fa43_1, fa43_2, fa43_3, fa28_0, fa28_1, fa28_2, cellO_box, oExtract, get_put, put_next, get_newBox, newBox_next, lit22_1, lit22_0, AV.noTup, Try.f6, hlen, gMaxA, gMaxAO_i, hmx, hmk, hb, hnt, hac, hS2, hn1, hq3, hcp]
    refine ⟨L.map i64A ++ cs0.drop L.length, S3, rfl, ⟨by omega, ?_, ?_, by simp [hcl]; omega, by omega, by omega, by omega, by omega, ?_, ?_, fun i hi => ?_⟩, ?_⟩
    · rw [← hS3, get_put, if_neg (by omega)]; exact hq2
    · rw [← hS3, get_put, if_pos rfl]
    · rw [← hS3, put_next, hn2]; omega
    · rw [← hS3, put_next, hn2]; omega
    · rw [Nat.zero_add, Nat.mod_eq_of_lt (by omega), List.getElem?_append_left (by simpa using hi), List.getElem?_map, List.getElem?_eq_getElem hi]; rfl
    · rw [← hS3]; exact keep_put k2 (Nat.le_refl _) _
-- List
noncomputable def listBody : Code := match Try.f13.body with
  | some (.seq _ (.seq _ (.seq (.seq _ (.block _ (.loop b))) _))) => b
  | _ => .skip
theorem listBody_is : (match listBody with | .skip => false | _ => true) = true := by kernel_rfl
theorem take_succ_get (L : List Int) (i : Nat) (h : i < L.length) : L.take (i + 1) = L.take i ++ [L[i]] := by
  rw [List.take_succ_eq_append_getElem h]
set_option maxHeartbeats 8000000 in
theorem list_loop (q r room first most : Nat) (cs : List AV) (L : List Int) (S0 : St) : ∀ (m i : Nat) (t : T AV) (S : St) (v : AV), i + m = L.length → t.get 0 = some (.ptr q 0) → t.get 3 = some v → t.get 8 = some (intA L.length) → t.get 9 = some (intA i) →
    RowA S v (L.take i) → QAt S q r room first most cs L → 2 ≤ S.next → KeepB S0 S →
    WX E1 26 (.loop listBody) ⟨t, []⟩ S (fun o => ∃ t' S' v', o = .out (.exit 0) ⟨t', []⟩ S' ∧ t'.get 3 = some v' ∧ RowA S' v' L ∧ KeepB S0 S')
  | 0, i, t, S, v, hi, h0, h3, h8, h9, ha, hQ, h2, hk => by
    refine WX_loop (W_sound ?_)
    have hlt : ¬ ((i : Int) < (L.length : Int)) := by omega
    rw [List.take_of_length_le (by omega)] at ha
    simp only [intA] at h8 h9
    simp only [thenW_normal, thenW_exit, thenW_ret, thenW_pan, W_skip, W_region, W_drawn, W_seq, W_cond, W_block, W_loop, W_exit, W_ret, seqQ_normal2, seqQ_exit2, seqQ_ret2, seqQ_pan2, blockW_normal2, blockW_ret2, blockW_pan2, blockW_exit2, WL_nil2, WL_cons, execL_no, execL_val2, execL_skip2, execL_enter2, execL_pan2, putL_none2, putL_some2, retL_ret2, retL_pan2, condW_t2, condW_f2, WR_nil2, WR_op, WR_re2, execR_no, execR_val2, execR_skip2, execR_enter2, putRW_none2, putRW_some2, retRW_ret2, fixQ_normal2, wantedA, exec1, evalO, initT, T.get_set, T.get_leaf, callA, mapO, ofOpt, ofOptS, ofConst, e1_P, e1_G, partsA, neNil3, neNil2, finW_ret, finW_pan, giveW, resultsA, tupA, fb_lss, fb_leq, fb_gtr, fb_geq, fb_add, fb_sub, fb_eqlI, fb_neqI, Nat.reduceLT, Nat.reduceAdd, Nat.reduceEqDiff, if_true, if_false, reduceIte, true_and, and_true, Option.getD_some, List.getElem?_toArray, List.getElem?_cons_succ, List.getElem?_cons_zero, Option.bind_some, List.nil_append, List.append_nil, beq_self_eq_true, Bool.false_eq_true, Bool.true_eq_false, decide_true, decide_false, Bool.not_true, Bool.not_false, Bool.false_beq, Bool.true_beq, Option.toList, List.head?_cons, List.head?_nil, app22, ld3, ld2, ld22, fa43_0, fa43_1, fa43_2, fa43_3, fa28_0, fa28_1, fa28_2, cellO_box, oExtract, get_put, put_next, get_newBox, newBox_next, lit22_1, lit22_0, AV.noTup, listBody, Try.f13, h8, h9, hlt]
    exact ⟨_, _, v, rfl, by simp only [T.get_set, Nat.reduceEqDiff, if_false, h3], ha, hk⟩
  | m + 1, i, t, S, v, hi, h0, h3, h8, h9, ha, hQ, h2, hk => by
    refine WX_loop (W_sound ?_)
    obtain ⟨fn1, hf1⟩ := fnOk17
    have hil : i < L.length := by omega
    have hlt : ((i : Int) < (L.length : Int)) := by omega
    have hq := hQ.hq
    have hr0 := hQ.hr
    have hfi := hQ.fst
    have hsm := hQ.small
    have hfit := hQ.fits
    obtain ⟨at1, hat⟩ : ∃ k, k = (first + i) % room := ⟨_, rfl⟩
    have hat2 : at1 < room := by rw [hat]; exact Nat.mod_lt _ (by omega)
    have hix := ixBs r 0 room at1 hat2
    rw [Nat.zero_add] at hix
    have hg := hQ.at_ i hil
    rw [← hat] at hg
    have hg : cs[at1]? = some (.v (.int .i64 L[i])) := hg
    have hpl := place_w S q r room first L.length most i hq (by omega) (by omega) (by omega)
    rw [← hat] at hpl
    have hw := wrap_one (i := i) (by omega)
    obtain ⟨v', S', hap, ha', hk'⟩ := append_w h2 ha (b := .sl 1 0 1 [.v (.int .i64 L[i])]) (M := [L[i]]) (.inr ⟨1, 0, rfl⟩) (by simp; omega)
    rw [← take_succ_get L i hil] at ha'
    unfold QB at hq
    simp only [intA] at h8 h9
    simp only [thenW_normal, thenW_exit, thenW_ret, thenW_pan, W_skip, W_region, W_drawn, W_seq, W_cond, W_block, W_loop, W_exit, W_ret, seqQ_normal2, seqQ_exit2, seqQ_ret2, seqQ_pan2, blockW_normal2, blockW_ret2, blockW_pan2, blockW_exit2, WL_nil2, WL_cons, execL_no, execL_val2, execL_skip2, execL_enter2, execL_pan2, putL_none2, putL_some2, retL_ret2, retL_pan2, condW_t2, condW_f2, WR_nil2, WR_op, WR_re2, execR_no, execR_val2, execR_skip2, execR_enter2, putRW_none2, putRW_some2, retRW_ret2, fixQ_normal2, wantedA, exec1, evalO, initT, T.get_set, T.get_leaf, callA, mapO, ofOpt, ofOptS, ofConst, e1_P, e1_G, partsA, neNil3, neNil2, finW_ret, finW_pan, giveW, resultsA, tupA, fb_lss, fb_leq, fb_gtr, fb_geq, fb_add, fb_sub, fb_eqlI, fb_neqI, Nat.reduceLT, Nat.reduceAdd, Nat.reduceEqDiff, if_true, if_false, reduceIte, true_and, and_true, Option.getD_some, List.getElem?_toArray, List.getElem?_cons_succ, List.getElem?_cons_zero, Option.bind_some, List.nil_append, List.append_nil, beq_self_eq_true, Bool.false_eq_true, Bool.true_eq_false, decide_true, decide_false, Bool.not_true, Bool.not_false, Bool.false_beq, Bool.true_beq, Option.toList, List.head?_cons, List.head?_nil, app22, ld3, ld2, ld22, fa43_0, fa43_1, fa43_2, fa43_3, fa28_0, fa28_1, fa28_2, cellO_box, oExtract, get_put, put_next, get_newBox, newBox_next, lit22_1, lit22_0, AV.noTup, listBody, Try.f13, h8, h9, hlt]
    refine WD_by [(0, true), (1, true), (2, true), (3, true), (4, true), (5, true), (6, true), (7, true), (4, false), (8, true), (9, true), (10, true), (11, true), (12, true)] (by kernel_rfl) (by kernel_rfl) ?_
    simp only [thenW_normal, thenW_exit, thenW_ret, thenW_pan, W_skip, W_region, W_drawn, W_seq, W_cond, W_block, W_loop, W_exit, W_ret, seqQ_normal2, seqQ_exit2, seqQ_ret2, seqQ_pan2, blockW_normal2, blockW_ret2, blockW_pan2, blockW_exit2, WL_nil2, WL_cons, execL_no, execL_val2, execL_skip2, execL_enter2, execL_pan2, putL_none2, putL_some2, retL_ret2, retL_pan2, condW_t2, condW_f2, WR_nil2, WR_op, WR_re2, execR_no, execR_val2, execR_skip2, execR_enter2, putRW_none2, putRW_some2, retRW_ret2, fixQ_normal2, wantedA, exec1, evalO, initT, T.get_set, T.get_leaf, callA, mapO, ofOpt, ofOptS, ofConst, e1_P, e1_G, partsA, neNil3, neNil2, finW_ret, finW_pan, giveW, resultsA, tupA, fb_lss, fb_leq, fb_gtr, fb_geq, fb_add, fb_sub, fb_eqlI, fb_neqI, Nat.reduceLT, Nat.reduceAdd, Nat.reduceEqDiff, if_true, if_false, reduceIte, true_and, and_true, Option.getD_some, List.getElem?_toArray, List.getElem?_cons_succ, List.getElem?_cons_zero, Option.bind_some, List.nil_append, List.append_nil, beq_self_eq_true, Bool.false_eq_true, Bool.true_eq_false, decide_true, decide_false, Bool.not_true, Bool.not_false, Bool.false_beq, Bool.true_beq, Option.toList, List.head?_cons, List.head?_nil, app22, ld3, ld2, ld22, fa43_0, fa43_1, fa43_2, fa43_3, fa28_0, fa28_1, fa28_2, cellO_box, oExtract, get_put, put_next, get_newBox, newBox_next, lit22_1, lit22_0, AV.noTup, listBody, Try.f13, rsOf, againO, lookV, beqA_int, beqA_ptr, beqA_bs, h8, h9, h0, h3, hq, hf1]
    refine WC.mono hpl ?_
    rintro _ rfl
    simp only [thenW_normal, thenW_exit, thenW_ret, thenW_pan, W_skip, W_region, W_drawn, W_seq, W_cond, W_block, W_loop, W_exit, W_ret, seqQ_normal2, seqQ_exit2, seqQ_ret2, seqQ_pan2, blockW_normal2, blockW_ret2, blockW_pan2, blockW_exit2, WL_nil2, WL_cons, execL_no, execL_val2, execL_skip2, execL_enter2, execL_pan2, putL_none2, putL_some2, retL_ret2, retL_pan2, condW_t2, condW_f2, WR_nil2, WR_op, WR_re2, execR_no, execR_val2, execR_skip2, execR_enter2, putRW_none2, putRW_some2, retRW_ret2, fixQ_normal2, wantedA, exec1, evalO, initT, T.get_set, T.get_leaf, callA, mapO, ofOpt, ofOptS, ofConst, e1_P, e1_G, partsA, neNil3, neNil2, finW_ret, finW_pan, giveW, resultsA, tupA, fb_lss, fb_leq, fb_gtr, fb_geq, fb_add, fb_sub, fb_eqlI, fb_neqI, Nat.reduceLT, Nat.reduceAdd, Nat.reduceEqDiff, if_true, if_false, reduceIte, true_and, and_true, Option.getD_some, List.getElem?_toArray, List.getElem?_cons_succ, List.getElem?_cons_zero, Option.bind_some, List.nil_append, List.append_nil, beq_self_eq_true, Bool.false_eq_true, Bool.true_eq_false, decide_true, decide_false, Bool.not_true, Bool.not_false, Bool.false_beq, Bool.true_beq, Option.toList, List.head?_cons, List.head?_nil, app22, ld3, ld2, ld22, fa43_0, fa43_1, fa43_2, fa43_3, fa28_0, fa28_1, fa28_2, cellO_box, oExtract, get_put, put_next, get_newBox, newBox_next, lit22_1, lit22_0, AV.noTup, listBody, Try.f13, rsOf, againO, lookV, beqA_int, beqA_ptr, beqA_bs, h8, h9, h0, h3, hq, hix, hr0, hg, hap, hw]
    refine WX.mono (list_loop q r room first most cs L S0 m (i + 1) _ S' v' (by omega) ?_ ?_ ?_ ?_ ha' (hQ.keep hk') (Nat.le_trans h2 hk'.1) (hk.trans hk')) (fun r h => h)
    · simp only [T.get_set, Nat.reduceEqDiff, if_false, h0]
    · simp only [T.get_set, Nat.reduceEqDiff, if_true, if_false]
    · simp only [T.get_set, Nat.reduceEqDiff, if_false, h8]; rfl
    · simp only [T.get_set, Nat.reduceEqDiff, if_true]; rfl
set_option maxHeartbeats 8000000 in
theorem list_w (S : St) (h2 : 2 ≤ S.next) (q r room first most : Nat) (cs : List AV) (L : List Int) (h : QAt S q r room first most cs L) :
    WC E1 13 [.ptr q 0] S (fun x => ∃ v S', x = .ret v S' ∧ rowIs v L ∧ KeepB S S') := by
  refine WC_fn Try.f13 (by kernel_rfl) (by kernel_rfl) (by kernel_rfl) (show (_ : Nat) ≤ _ from by show (_ : Nat) ≤ _; simp [Try.f13]) ?_
  have key := fun t h0 h3 h8 h9 => list_loop q r room first most cs L S L.length 0 t S .nils (by omega) h0 h3 h8 h9 (.inl ⟨rfl, by simp⟩) h h2 (KeepB.refl S)
  unfold listBody at key
  simp only [Try.f13] at key
  have hq := h.hq
  unfold QB at hq
  simp only [thenW_normal, thenW_exit, thenW_ret, thenW_pan, W_skip, W_region, W_drawn, W_seq, W_cond, W_block, W_loop, W_exit, W_ret, seqQ_normal2, seqQ_exit2, seqQ_ret2, seqQ_pan2, blockW_normal2, blockW_ret2, blockW_pan2, blockW_exit2, WL_nil2, WL_cons, execL_no, execL_val2, execL_skip2, execL_enter2, execL_pan2, putL_none2, putL_some2, retL_ret2, retL_pan2, condW_t2, condW_f2, WR_nil2, WR_op, WR_re2, execR_no, execR_val2, execR_skip2, execR_enter2, putRW_none2, putRW_some2, retRW_ret2, fixQ_normal2, wantedA, exec1, evalO, initT, T.get_set, T.get_leaf, callA, mapO, ofOpt, ofOptS, ofConst, e1_P, e1_G, partsA, neNil3, neNil2, finW_ret, finW_pan, giveW, resultsA, tupA, fb_lss, fb_leq, fb_gtr, fb_geq, fb_add, fb_sub, fb_eqlI, fb_neqI, Nat.reduceLT, Nat.reduceAdd, Nat.reduceEqDiff, if_true, if_false, reduceIte, true_and, and_true, Option.getD_some, List.getElem?_toArray, List.getElem?_cons_succ, List.getElem?_cons_zero, Option.bind_some, List.nil_append, List.append_nil, beq_self_eq_true, Bool.false_eq_true, Bool.true_eq_false, decide_true, decide_false, Bool.not_true, Bool.not_false, Bool.false_beq, Bool.true_beq, Option.toList, List.head?_cons, List.head?_nil, app22, ld3, ld2, ld22, fa43_0, fa43_1, fa43_2, fa43_3, fa28_0, fa28_1, fa28_2, cellO_box, oExtract, get_put, put_next, get_newBox, newBox_next, lit22_1, lit22_0, AV.noTup, Try.f13, hq]
  refine WX.mono (key _ ?_ ?_ ?_ ?_) ?_
  · simp only [T.get_set, T.get_leaf, Nat.reduceEqDiff, if_true, if_false]
  · simp only [T.get_set, T.get_leaf, Nat.reduceEqDiff, if_true, if_false]
  · simp only [T.get_set, T.get_leaf, Nat.reduceEqDiff, if_true, if_false]; rfl
  · simp only [T.get_set, T.get_leaf, Nat.reduceEqDiff, if_true, if_false]; rfl
  rintro o ⟨t', S', v', rfl, h3, ha, hk⟩
  simp only [thenW_normal, thenW_exit, thenW_ret, thenW_pan, W_skip, W_region, W_drawn, W_seq, W_cond, W_block, W_loop, W_exit, W_ret, seqQ_normal2, seqQ_exit2, seqQ_ret2, seqQ_pan2, blockW_normal2, blockW_ret2, blockW_pan2, blockW_exit2, WL_nil2, WL_cons, execL_no, execL_val2, execL_skip2, execL_enter2, execL_pan2, putL_none2, putL_some2, retL_ret2, retL_pan2, condW_t2, condW_f2, WR_nil2, WR_op, WR_re2, execR_no, execR_val2, execR_skip2, execR_enter2, putRW_none2, putRW_some2, retRW_ret2, fixQ_normal2, wantedA, exec1, evalO, initT, T.get_set, T.get_leaf, callA, mapO, ofOpt, ofOptS, ofConst, e1_P, e1_G, partsA, neNil3, neNil2, finW_ret, finW_pan, giveW, resultsA, tupA, fb_lss, fb_leq, fb_gtr, fb_geq, fb_add, fb_sub, fb_eqlI, fb_neqI, Nat.reduceLT, Nat.reduceAdd, Nat.reduceEqDiff, if_true, if_false, reduceIte, true_and, and_true, Option.getD_some, List.getElem?_toArray, List.getElem?_cons_succ, List.getElem?_cons_zero, Option.bind_some, List.nil_append, List.append_nil, beq_self_eq_true, Bool.false_eq_true, Bool.true_eq_false, decide_true, decide_false, Bool.not_true, Bool.not_false, Bool.false_beq, Bool.true_beq, Option.toList, List.head?_cons, List.head?_nil, app22, ld3, ld2, ld22, fa43_0, fa43_1, fa43_2, fa43_3, fa28_0, fa28_1, fa28_2, cellO_box, oExtract, get_put, put_next, get_newBox, newBox_next, lit22_1, lit22_0, AV.noTup, Try.f13, h3]
  exact ⟨v', S', rfl, ha.is, hk⟩
-- Same
noncomputable def sameBody : Code := match Try.f12.body with
  | some (.seq _ (.seq _ (.seq (.seq _ (.block _ (.loop b))) _))) => b
  | _ => .skip
theorem sameBody_is : (match sameBody with | .skip => false | _ => true) = true := by kernel_rfl
theorem idx22 {v : AV} {L : List Int} (h : rowIs v L) (i : Nat) (hi : i < L.length) : oIndexAddr Try.prog 22 v (.v (.int .i64 (i : Int))) = some (.ep [.v (.int .i64 L[i])]) := by
  rcases h with ⟨rfl, rfl⟩ | ⟨tok, off, rfl⟩
  · simp at hi
  · exact ix22 tok off L i hi
theorem neq_self (n : Int) : (n != n) = false := by simp
set_option maxHeartbeats 8000000 in
theorem same_loop {v u : AV} {L : List Int} (hv : rowIs v L) (hu : rowIs u L) (hl : L.length ≤ 1000000) (S : St) : ∀ (m i : Nat) (t : T AV), i + m = L.length → t.get 0 = some v → t.get 1 = some u → t.get 12 = some (intA L.length) → t.get 13 = some (intA i) →
    WX E1 26 (.loop sameBody) ⟨t, []⟩ S (fun o => ∃ t', o = .out (.exit 0) ⟨t', []⟩ S)
  | 0, i, t, hi, h0, h1, h12, h13 => by
    refine WX_loop (W_sound ?_)
    have hlt : ¬ ((i : Int) < (L.length : Int)) := by omega
    simp only [intA] at h12 h13
    simp only [thenW_normal, thenW_exit, thenW_ret, thenW_pan, W_skip, W_region, W_drawn, W_seq, W_cond, W_block, W_loop, W_exit, W_ret, seqQ_normal2, seqQ_exit2, seqQ_ret2, seqQ_pan2, blockW_normal2, blockW_ret2, blockW_pan2, blockW_exit2, WL_nil2, WL_cons, execL_no, execL_val2, execL_skip2, execL_enter2, execL_pan2, putL_none2, putL_some2, retL_ret2, retL_pan2, condW_t2, condW_f2, WR_nil2, WR_op, WR_re2, execR_no, execR_val2, execR_skip2, execR_enter2, putRW_none2, putRW_some2, retRW_ret2, fixQ_normal2, wantedA, exec1, evalO, initT, T.get_set, T.get_leaf, callA, mapO, ofOpt, ofOptS, ofConst, e1_P, e1_G, partsA, neNil3, neNil2, finW_ret, finW_pan, giveW, resultsA, tupA, fb_lss, fb_leq, fb_gtr, fb_geq, fb_add, fb_sub, fb_eqlI, fb_neqI, Nat.reduceLT, Nat.reduceAdd, Nat.reduceEqDiff, if_true, if_false, reduceIte, true_and, and_true, Option.getD_some, List.getElem?_toArray, List.getElem?_cons_succ, List.getElem?_cons_zero, Option.bind_some, List.nil_append, List.append_nil, beq_self_eq_true, Bool.false_eq_true, Bool.true_eq_false, decide_true, decide_false, Bool.not_true, Bool.not_false, Bool.false_beq, Bool.true_beq, Option.toList, List.head?_cons, List.head?_nil, app22, ld3, ld2, ld22, fa43_0, fa43_1, fa43_2, fa43_3, fa28_0, fa28_1, fa28_2, cellO_box, oExtract, get_put, put_next, get_newBox, newBox_next, lit22_1, lit22_0, AV.noTup, sameBody, Try.f12, h12, h13, hlt]
    exact ⟨_, rfl⟩
  | m + 1, i, t, hi, h0, h1, h12, h13 => by
    refine WX_loop (W_sound ?_)
    have hil : i < L.length := by omega
    have hlt : ((i : Int) < (L.length : Int)) := by omega
    have hx := idx22 hv i hil
    have hy := idx22 hu i hil
    have hw := wrap_one (i := i) (by omega)
    have hne := neq_self L[i]
    have hep := ld2ep S
    simp only [intA] at h12 h13
    simp only [thenW_normal, thenW_exit, thenW_ret, thenW_pan, W_skip, W_region, W_drawn, W_seq, W_cond, W_block, W_loop, W_exit, W_ret, seqQ_normal2, seqQ_exit2, seqQ_ret2, seqQ_pan2, blockW_normal2, blockW_ret2, blockW_pan2, blockW_exit2, WL_nil2, WL_cons, execL_no, execL_val2, execL_skip2, execL_enter2, execL_pan2, putL_none2, putL_some2, retL_ret2, retL_pan2, condW_t2, condW_f2, WR_nil2, WR_op, WR_re2, execR_no, execR_val2, execR_skip2, execR_enter2, putRW_none2, putRW_some2, retRW_ret2, fixQ_normal2, wantedA, exec1, evalO, initT, T.get_set, T.get_leaf, callA, mapO, ofOpt, ofOptS, ofConst, e1_P, e1_G, partsA, neNil3, neNil2, finW_ret, finW_pan, giveW, resultsA, tupA, fb_lss, fb_leq, fb_gtr, fb_geq, fb_add, fb_sub, fb_eqlI, fb_neqI, Nat.reduceLT, Nat.reduceAdd, Nat.reduceEqDiff, if_true, if_false, reduceIte, true_and, and_true, Option.getD_some, List.getElem?_toArray, List.getElem?_cons_succ, List.getElem?_cons_zero, Option.bind_some, List.nil_append, List.append_nil, beq_self_eq_true, Bool.false_eq_true, Bool.true_eq_false, decide_true, decide_false, Bool.not_true, Bool.not_false, Bool.false_beq, Bool.true_beq, Option.toList, List.head?_cons, List.head?_nil, app22, ld3, ld2, ld22, fa43_0, fa43_1, fa43_2, fa43_3, fa28_0, fa28_1, fa28_2, cellO_box, oExtract, get_put, put_next, get_newBox, newBox_next, lit22_1, lit22_0, AV.noTup, sameBody, Try.f12, h12, h13, hlt]
    refine WD_by [(0, true), (1, true), (2, true), (3, true), (4, true), (5, true), (6, true), (7, true), (8, true)] (by kernel_rfl) (by kernel_rfl) ?_
    simp only [thenW_normal, thenW_exit, thenW_ret, thenW_pan, W_skip, W_region, W_drawn, W_seq, W_cond, W_block, W_loop, W_exit, W_ret, seqQ_normal2, seqQ_exit2, seqQ_ret2, seqQ_pan2, blockW_normal2, blockW_ret2, blockW_pan2, blockW_exit2, WL_nil2, WL_cons, execL_no, execL_val2, execL_skip2, execL_enter2, execL_pan2, putL_none2, putL_some2, retL_ret2, retL_pan2, condW_t2, condW_f2, WR_nil2, WR_op, WR_re2, execR_no, execR_val2, execR_skip2, execR_enter2, putRW_none2, putRW_some2, retRW_ret2, fixQ_normal2, wantedA, exec1, evalO, initT, T.get_set, T.get_leaf, callA, mapO, ofOpt, ofOptS, ofConst, e1_P, e1_G, partsA, neNil3, neNil2, finW_ret, finW_pan, giveW, resultsA, tupA, fb_lss, fb_leq, fb_gtr, fb_geq, fb_add, fb_sub, fb_eqlI, fb_neqI, Nat.reduceLT, Nat.reduceAdd, Nat.reduceEqDiff, if_true, if_false, reduceIte, true_and, and_true, Option.getD_some, List.getElem?_toArray, List.getElem?_cons_succ, List.getElem?_cons_zero, Option.bind_some, List.nil_append, List.append_nil, beq_self_eq_true, Bool.false_eq_true, Bool.true_eq_false, decide_true, decide_false, Bool.not_true, Bool.not_false, Bool.false_beq, Bool.true_beq, Option.toList, List.head?_cons, List.head?_nil, app22, ld3, ld2, ld22, fa43_0, fa43_1, fa43_2, fa43_3, fa28_0, fa28_1, fa28_2, cellO_box, oExtract, get_put, put_next, get_newBox, newBox_next, lit22_1, lit22_0, AV.noTup, sameBody, Try.f12, rsOf, againO, lookV, beqA_int, beqA_ptr, beqA_bs, h12, h13, h0, h1, hx, hy, hep, hne, hw]
    refine WX.mono (same_loop hv hu hl S m (i + 1) _ (by omega) ?_ ?_ ?_ ?_) (fun r h => h)
    · simp only [T.get_set, Nat.reduceEqDiff, if_false, h0]
    · simp only [T.get_set, Nat.reduceEqDiff, if_false, h1]
    · simp only [T.get_set, Nat.reduceEqDiff, if_false, h12]; rfl
    · simp only [T.get_set, Nat.reduceEqDiff, if_true]; rfl
set_option maxHeartbeats 8000000 in
theorem same_w (S : St) {v u : AV} {L : List Int} (hv : rowIs v L) (hu : rowIs u L) (hl : L.length ≤ 1000000) : WC E1 12 [v, u] S (fun x => x = .ret (.v (.int .i64 0)) S) := by
  refine WC_fn Try.f12 (by kernel_rfl) (by kernel_rfl) (by kernel_rfl) (show (_ : Nat) ≤ _ from by show (_ : Nat) ≤ _; simp [Try.f12]) ?_
  have key := fun t h0 h1 h12 h13 => same_loop hv hu hl S L.length 0 t (by omega) h0 h1 h12 h13
  unfold sameBody at key
  simp only [Try.f12] at key
  have h1 := len22 S hv
  have h2 := len22 S hu
  have hne := neq_self (L.length : Int)
  simp only [thenW_normal, thenW_exit, thenW_ret, thenW_pan, W_skip, W_region, W_drawn, W_seq, W_cond, W_block, W_loop, W_exit, W_ret, seqQ_normal2, seqQ_exit2, seqQ_ret2, seqQ_pan2, blockW_normal2, blockW_ret2, blockW_pan2, blockW_exit2, WL_nil2, WL_cons, execL_no, execL_val2, execL_skip2, execL_enter2, execL_pan2, putL_none2, putL_some2, retL_ret2, retL_pan2, condW_t2, condW_f2, WR_nil2, WR_op, WR_re2, execR_no, execR_val2, execR_skip2, execR_enter2, putRW_none2, putRW_some2, retRW_ret2, fixQ_normal2, wantedA, exec1, evalO, initT, T.get_set, T.get_leaf, callA, mapO, ofOpt, ofOptS, ofConst, e1_P, e1_G, partsA, neNil3, neNil2, finW_ret, finW_pan, giveW, resultsA, tupA, fb_lss, fb_leq, fb_gtr, fb_geq, fb_add, fb_sub, fb_eqlI, fb_neqI, Nat.reduceLT, Nat.reduceAdd, Nat.reduceEqDiff, if_true, if_false, reduceIte, true_and, and_true, Option.getD_some, List.getElem?_toArray, List.getElem?_cons_succ, List.getElem?_cons_zero, Option.bind_some, List.nil_append, List.append_nil, beq_self_eq_true, Bool.false_eq_true, Bool.true_eq_false, decide_true, decide_false, Bool.not_true, Bool.not_false, Bool.false_beq, Bool.true_beq, Option.toList, List.head?_cons, List.head?_nil, app22, ld3, ld2, ld22, fa43_0, fa43_1, fa43_2, fa43_3, fa28_0, fa28_1, fa28_2, cellO_box, oExtract, get_put, put_next, get_newBox, newBox_next, lit22_1, lit22_0, AV.noTup, Try.f12, h1, h2, hne]
  refine WX.mono (key _ ?_ ?_ ?_ ?_) ?_
  · simp only [T.get_set, T.get_leaf, Nat.reduceEqDiff, if_true, if_false]
  · simp only [T.get_set, T.get_leaf, Nat.reduceEqDiff, if_true, if_false]
  · simp only [T.get_set, T.get_leaf, Nat.reduceEqDiff, if_true, if_false]; rfl
  · simp only [T.get_set, T.get_leaf, Nat.reduceEqDiff, if_true, if_false]; rfl
  rintro o ⟨t', rfl⟩
  simp only [thenW_normal, thenW_exit, thenW_ret, thenW_pan, W_skip, W_region, W_drawn, W_seq, W_cond, W_block, W_loop, W_exit, W_ret, seqQ_normal2, seqQ_exit2, seqQ_ret2, seqQ_pan2, blockW_normal2, blockW_ret2, blockW_pan2, blockW_exit2, WL_nil2, WL_cons, execL_no, execL_val2, execL_skip2, execL_enter2, execL_pan2, putL_none2, putL_some2, retL_ret2, retL_pan2, condW_t2, condW_f2, WR_nil2, WR_op, WR_re2, execR_no, execR_val2, execR_skip2, execR_enter2, putRW_none2, putRW_some2, retRW_ret2, fixQ_normal2, wantedA, exec1, evalO, initT, T.get_set, T.get_leaf, callA, mapO, ofOpt, ofOptS, ofConst, e1_P, e1_G, partsA, neNil3, neNil2, finW_ret, finW_pan, giveW, resultsA, tupA, fb_lss, fb_leq, fb_gtr, fb_geq, fb_add, fb_sub, fb_eqlI, fb_neqI, Nat.reduceLT, Nat.reduceAdd, Nat.reduceEqDiff, if_true, if_false, reduceIte, true_and, and_true, Option.getD_some, List.getElem?_toArray, List.getElem?_cons_succ, List.getElem?_cons_zero, Option.bind_some, List.nil_append, List.append_nil, beq_self_eq_true, Bool.false_eq_true, Bool.true_eq_false, decide_true, decide_false, Bool.not_true, Bool.not_false, Bool.false_beq, Bool.true_beq, Option.toList, List.head?_cons, List.head?_nil, app22, ld3, ld2, ld22, fa43_0, fa43_1, fa43_2, fa43_3, fa28_0, fa28_1, fa28_2, cellO_box, oExtract, get_put, put_next, get_newBox, newBox_next, lit22_1, lit22_0, AV.noTup, Try.f12]
end Go.Ax
noncomputable section
namespace Go.Ax
open Go.RowKit Go.Proofs
set_option linter.unusedVariables false
set_option linter.unusedSimpArgs false
set_option maxRecDepth 100000

def RefQ (l : AV) (room : Int) (most : Nat) : List AV := [l, .v (.int .i64 room), .v (.int .i64 (most : Int))]
def agg3 (c : Option Cell) : Option AV := match c with
  | some (.box [a, b, c]) => some (.agg [a, b, c])
  | _ => none
theorem ld28 (S : St) (p : Nat) (a b c : AV) (h : S.mem.get p = some (.box [a, b, c])) : oLoad Try.prog S 28 (.ptr p 0) = some (.agg [a, b, c]) := by
  have h1 : isAggT Try.prog 28 = some true := by kernel_rfl
  have h2 : sizeT Try.prog 28 = some 3 := by kernel_rfl
  simp [oLoad, behind, h, h1, h2]
theorem st28 (S : St) (p : Nat) (a b c x y z : AV) (h : S.mem.get p = some (.box [x, y, z])) : oStore Try.prog S 28 (.ptr p 0) (.agg [a, b, c]) = some (S.put p [a, b, c]) := by
  have h2 : sizeT Try.prog 28 = some 3 := by kernel_rfl
  simp [oStore, h, h2, AV.noTup, AV.cells, St.put]
theorem al28 (S : St) : oAlloc Try.prog S 28 = some (.ptr S.next 0, S.newBox [.nils, .v (.int .i64 0), .v (.int .i64 0)]) := by
  obtain ⟨i, hi⟩ : ∃ i, Try.prog.info? 28 = some i := Option.isSome_iff_exists.1 (by kernel_rfl)
  have hz : (Try.prog.info? 28).map (·.zero) = some (some (.agg #[.slice none 0 0, .int .i64 0, .int .i64 0])) := by kernel_rfl
  rw [hi] at hz
  simp only [Option.map_some, Option.some.injEq] at hz
  have hc : ofConst 8 (.agg #[.slice none 0 0, .int .i64 0, .int .i64 0]) = some (.agg [.nils, .v (.int .i64 0), .v (.int .i64 0)]) := by kernel_rfl
  simp only [oAlloc, hi, hz, hc]
  rfl
theorem bld28 {l : AV} (hl : l.one = true) (r m : Int) : oBuild Try.prog 28 [(0, l), (1, .v (.int .i64 r)), (2, .v (.int .i64 m))] = some (.agg [l, .v (.int .i64 r), .v (.int .i64 m)]) := by
  cases l <;> first | (cases hl; done) | kernel_rfl
theorem keepB_put {S S' : St} (h : KeepB S S') {id : Nat} (hid : S.next ≤ id) (cs : List AV) : KeepB S (S'.put id cs) := ⟨h.1, fun k cs' hk e => by
  rw [get_put, if_neg (by omega)]; exact h.2 k cs' hk e⟩
theorem keepB_new (S : St) (cs : List AV) : KeepB S (S.newBox cs) := (keep_new S cs).b
theorem nt3 (a b c : AV) : (AV.agg [a, b, c]).noTup = true := rfl
theorem cl3 (a b c : AV) : (AV.agg [a, b, c]).cells = [a, b, c] := rfl
set_option maxHeartbeats 8000000 in
theorem refNew_w (S : St) (h2 : 2 ≤ S.next) (room : Int) (hroom : room ≤ 50) {v : AV} {L : List Int} (hv : rowIs v L) (hl : L.length ≤ 50) :
    WC E1 7 [.v (.int .i64 room), v] S (fun x => ∃ l S', x = .ret (.agg (RefQ l ((max (max room.toNat L.length) 1 : Nat) : Int) L.length)) S' ∧ rowIs l L ∧ KeepB S S') := by
  refine WC_fn Try.f7 (by kernel_rfl) (by kernel_rfl) (by kernel_rfl) (show (_ : Nat) ≤ _ from by show (_ : Nat) ≤ _; simp [Try.f7]) ?_
  have hlen := fun S => len22 S hv
  obtain ⟨n, hn⟩ : ∃ n, n = max (max room.toNat L.length) 1 := ⟨_, rfl⟩
  rw [← hn]
  have hmx : (if (L.length : Int) > (if room > 1 then room else 1) then (L.length : Int) else (if room > 1 then room else 1)) = (n : Int) := by
    split <;> split <;> omega
  generalize hS1 : S.newBox [.nils, .v (.int .i64 0), .v (.int .i64 0)] = S1
  have hn1 : S1.next = S.next + 1 := by rw [← hS1]; rfl
  have hr1 : S1.mem.get S.next = some (.box [.nils, .v (.int .i64 0), .v (.int .i64 0)]) := by rw [← hS1, get_newBox, if_pos rfl]
  have k1 : KeepB S S1 := by rw [← hS1]; exact keepB_new _ _
  obtain ⟨l, S2, hap, ha, k2⟩ := append_w (S := S1) (by omega) (v := .sl 1 0 1 []) (L := []) (.inr (.inl ⟨rfl, rfl⟩)) hv (by simp; omega)
  rw [List.nil_append] at ha
  have hb := bld28 (rowIs_one ha.is) (n : Int) (L.length : Int)
  have hr2 := k2.2 _ _ (by omega) hr1
  have hst := st28 S2 S.next l (.v (.int .i64 (n : Int))) (.v (.int .i64 (L.length : Int))) _ _ _ hr2
  generalize hS3 : S2.put S.next [l, .v (.int .i64 (n : Int)), .v (.int .i64 (L.length : Int))] = S3 at hst
  have hr3 : S3.mem.get S.next = some (.box [l, .v (.int .i64 (n : Int)), .v (.int .i64 (L.length : Int))]) := by rw [← hS3, get_put, if_pos rfl]
  have hld := ld28 S3 S.next _ _ _ hr3
  simp only [thenW_normal, thenW_exit, thenW_ret, thenW_pan, W_skip, W_region, W_drawn, W_seq, W_cond, W_block, W_loop, W_exit, W_ret, seqQ_normal2, seqQ_exit2, seqQ_ret2, seqQ_pan2, blockW_normal2, blockW_ret2, blockW_pan2, blockW_exit2, WL_nil2, WL_cons, execL_no, execL_val2, execL_skip2, execL_enter2, execL_pan2, putL_none2, putL_some2, retL_ret2, retL_pan2, condW_t2, condW_f2, WR_nil2, WR_op, WR_re2, execR_no, execR_val2, execR_skip2, execR_enter2, putRW_none2, putRW_some2, retRW_ret2, fixQ_normal2, wantedA, exec1, evalO, initT, T.get_set, T.get_leaf, callA, mapO, ofOpt, ofOptS, ofConst, e1_P, e1_G, partsA, neNil3, neNil2, finW_ret, finW_pan, giveW, resultsA, tupA, fb_lss, fb_leq, fb_gtr, fb_geq, fb_add, fb_sub, fb_eqlI, fb_neqI, Nat.reduceLT, Nat.reduceAdd, Nat.reduceEqDiff, if_true, if_false, reduceIte, true_and, and_true, Option.getD_some, List.getElem?_toArray, List.getElem?_cons_succ, List.getElem?_cons_zero, Option.bind_some, List.nil_append, List.append_nil, beq_self_eq_true, Bool.false_eq_true, Bool.true_eq_false, decide_true, decide_false, Bool.not_true, Bool.not_false, Bool.false_beq, Bool.true_beq, Option.toList, List.head?_cons, List.head?_nil, app22, ld3, ld2, ld22, fa43_0, fa43_1, fa43_2, fa43_3, fa28_0, fa28_1, fa28_2, cellO_box, oExtract, get_put, put_next, get_newBox, newBox_next, lit22_1, lit22_0, AV.noTup, Try.f7, al28, hS1, hlen, gMaxB, gMaxBO_i, hmx, hap, hb, hst, hld]
  refine ⟨l, S3, rfl, ha.is, ?_⟩
  rw [← hS3]; exact keepB_put (k1.trans k2) (Nat.le_refl _) _
set_option maxHeartbeats 8000000 in
theorem refPut_w (S : St) (h2 : 2 ≤ S.next) (room : Nat) (most : Nat) (v : Int) {l : AV} {L : List Int} (hv : rowIs l L) (hl : L.length ≤ 1000) (hm : most ≤ 1000) :
    WC E1 8 [.agg (RefQ l room most), .v (.int .i64 v)] S (fun x => ∃ l' L' m' S', x = .ret (.tup [.agg (RefQ l' room m'), .v (.bool (decide (L.length < room)))]) S' ∧ rowIs l' L' ∧ KeepB S S' ∧
      (L', m') = (if L.length < room then (L ++ [v], max most (L.length + 1)) else (L, most))) := by
  refine WC_fn Try.f8 (by kernel_rfl) (by kernel_rfl) (by kernel_rfl) (show (_ : Nat) ≤ _ from by show (_ : Nat) ≤ _; simp [Try.f8]) ?_
  have hlen := fun S => len22 S hv
  generalize hS0 : S.newBox (RefQ l room most) = S0
  generalize hS1 : S0.newBox [.nils, .v (.int .i64 0), .v (.int .i64 0)] = S1
  have hn0 : S0.next = S.next + 1 := by rw [← hS0]; rfl
  have hn1 : S1.next = S.next + 2 := by rw [← hS1, newBox_next, hn0]
  have hp0 : S0.mem.get S.next = some (.box (RefQ l room most)) := by rw [← hS0, get_newBox, if_pos rfl]
  have hp1 : S1.mem.get S.next = some (.box (RefQ l room most)) := by rw [← hS1, get_newBox, if_neg (by omega)]; exact hp0
  have hr1 : S1.mem.get (S.next + 1) = some (.box [.nils, .v (.int .i64 0), .v (.int .i64 0)]) := by rw [← hS1, get_newBox, hn0, if_pos rfl]
  have k1 : KeepB S S1 := by rw [← hS1, ← hS0]; exact (keepB_new _ _).trans (keepB_new _ _)
  by_cases hfit : L.length < room
  · have hge : ¬ ((L.length : Int) ≥ (room : Int)) := by omega
    rw [if_pos hfit, decide_eq_true hfit]
    obtain ⟨u, S2, hap, ha, k2⟩ := append_w (S := S1) (by omega) (v := .sl 1 0 1 []) (L := []) (.inr (.inl ⟨rfl, rfl⟩)) hv (by simp; omega)
    rw [List.nil_append] at ha
    obtain ⟨u2, S3, hap2, ha2, k3⟩ := append_w (S := S2) (Nat.le_trans (by omega) k2.1) ha (b := .sl 1 0 1 [.v (.int .i64 v)]) (M := [v]) (.inr ⟨1, 0, rfl⟩) (by simp; omega)
    have k23 := k2.trans k3
    have hp3 := k23.2 _ _ (by omega) hp1
    have hr3 := k23.2 _ _ (by omega) hr1
    have hst := store1 s22 S3 S.next 0 u2 (RefQ l room most) (rowIs_one ha2.is) hp3 (by show 0 < 3; decide)
    generalize hS4 : S3.put S.next ((RefQ l room most).set 0 u2) = S4 at hst
    have hp4 : S4.mem.get S.next = some (.box (RefQ u2 room most)) := by rw [← hS4, get_put, if_pos rfl]; rfl
    have hr4 : S4.mem.get (S.next + 1) = some (.box [.nils, .v (.int .i64 0), .v (.int .i64 0)]) := by rw [← hS4, get_put, if_neg (by omega)]; exact hr3
    have hlen2 := fun S => len22 S ha2.is
    have hle : (L ++ [v]).length = L.length + 1 := by simp
    rw [hle] at hlen2
    have hmx : (if ((L.length + 1 : Nat) : Int) > (most : Int) then ((L.length + 1 : Nat) : Int) else (most : Int)) = ((max most (L.length + 1) : Nat) : Int) := by
      split <;> omega
    have hst2 := store1 s3 S4 S.next 2 (.v (.int .i64 ((max most (L.length + 1) : Nat) : Int))) (RefQ u2 room most) rfl hp4 (by show 2 < 3; decide)
    generalize hS5 : S4.put S.next ((RefQ u2 room most).set 2 (.v (.int .i64 ((max most (L.length + 1) : Nat) : Int)))) = S5 at hst2
    have hp5 : S5.mem.get S.next = some (.box (RefQ u2 room (max most (L.length + 1)))) := by rw [← hS5, get_put, if_pos rfl]; rfl
    have hr5 : S5.mem.get (S.next + 1) = some (.box [.nils, .v (.int .i64 0), .v (.int .i64 0)]) := by rw [← hS5, get_put, if_neg (by omega)]; exact hr4
    have hld := ld28 S5 S.next _ _ _ hp5
    have hst3 := st28 S5 (S.next + 1) u2 (.v (.int .i64 room)) (.v (.int .i64 ((max most (L.length + 1) : Nat) : Int))) _ _ _ hr5
    generalize hS6 : S5.put (S.next + 1) [u2, .v (.int .i64 room), .v (.int .i64 ((max most (L.length + 1) : Nat) : Int))] = S6 at hst3
    have hr6 : S6.mem.get (S.next + 1) = some (.box [u2, .v (.int .i64 room), .v (.int .i64 ((max most (L.length + 1) : Nat) : Int))]) := by rw [← hS6, get_put, if_pos rfl]
    have hld2 := ld28 S6 (S.next + 1) _ _ _ hr6
    have kk : KeepB S S6 := by
      rw [← hS6, ← hS5, ← hS4]
      exact keepB_put (keepB_put (keepB_put (k1.trans k23) (Nat.le_refl _) _) (Nat.le_refl _) _) (Nat.le_succ _) _
    unfold RefQ at hp1 hp4 hS0 ⊢
    simp only [thenW_normal, thenW_exit, thenW_ret, thenW_pan, W_skip, W_region, W_drawn, W_seq, W_cond, W_block, W_loop, W_exit, W_ret, seqQ_normal2, seqQ_exit2, seqQ_ret2, seqQ_pan2, blockW_normal2, blockW_ret2, blockW_pan2, blockW_exit2, WL_nil2, WL_cons, execL_no, execL_val2, execL_skip2, execL_enter2, execL_pan2, putL_none2, putL_some2, retL_ret2, retL_pan2, condW_t2, condW_f2, WR_nil2, WR_op, WR_re2, execR_no, execR_val2, execR_skip2, execR_enter2, putRW_none2, putRW_some2, retRW_ret2, fixQ_normal2, wantedA, exec1, evalO, initT, T.get_set, T.get_leaf, callA, mapO, ofOpt, ofOptS, ofConst, e1_P, e1_G, partsA, neNil3, neNil2, finW_ret, finW_pan, giveW, resultsA, tupA, fb_lss, fb_leq, fb_gtr, fb_geq, fb_add, fb_sub, fb_eqlI, fb_neqI, Nat.reduceLT, Nat.reduceAdd, Nat.reduceEqDiff, if_true, if_false, reduceIte, true_and, and_true, Option.getD_some, List.getElem?_toArray, List.getElem?_cons_succ, List.getElem?_cons_zero, Option.bind_some, List.nil_append, List.append_nil, beq_self_eq_true, Bool.false_eq_true, Bool.true_eq_false, decide_true, decide_false, Bool.not_true, Bool.not_false, Bool.false_beq, Bool.true_beq, Option.toList, List.head?_cons, List.head?_nil, app22, ld3, ld2, ld22, fa43_0, fa43_1, fa43_2, fa43_3, fa28_0, fa28_1, fa28_2, cellO_box, oExtract, get_put, put_next, get_newBox, newBox_next, lit22_1, lit22_0, AV.noTup, Try.f8, nt3, cl3, hS0, al28, hS1, hn0, hp1, hlen, hge, hap, hap2, hst, hp4, hlen2, gMax, gMaxO_i, hmx, hst2, hld, hst3, hld2]
    exact ⟨u2, _, _, S6, rfl, ha2.is, kk, rfl⟩
  · have hge : ((L.length : Int) ≥ (room : Int)) := by omega
    rw [if_neg hfit, decide_eq_false hfit]
    have hld := ld28 S1 S.next _ _ _ hp1
    have hst3 := st28 S1 (S.next + 1) l (.v (.int .i64 room)) (.v (.int .i64 (most : Int))) _ _ _ hr1
    generalize hS6 : S1.put (S.next + 1) [l, .v (.int .i64 room), .v (.int .i64 (most : Int))] = S6 at hst3
    have hr6 : S6.mem.get (S.next + 1) = some (.box [l, .v (.int .i64 room), .v (.int .i64 (most : Int))]) := by rw [← hS6, get_put, if_pos rfl]
    have hld2 := ld28 S6 (S.next + 1) _ _ _ hr6
    have kk : KeepB S S6 := by rw [← hS6]; exact keepB_put k1 (Nat.le_succ _) _
    unfold RefQ at hp1 hS0 ⊢
    simp only [thenW_normal, thenW_exit, thenW_ret, thenW_pan, W_skip, W_region, W_drawn, W_seq, W_cond, W_block, W_loop, W_exit, W_ret, seqQ_normal2, seqQ_exit2, seqQ_ret2, seqQ_pan2, blockW_normal2, blockW_ret2, blockW_pan2, blockW_exit2, WL_nil2, WL_cons, execL_no, execL_val2, execL_skip2, execL_enter2, execL_pan2, putL_none2, putL_some2, retL_ret2, retL_pan2, condW_t2, condW_f2, WR_nil2, WR_op, WR_re2, execR_no, execR_val2, execR_skip2, execR_enter2, putRW_none2, putRW_some2, retRW_ret2, fixQ_normal2, wantedA, exec1, evalO, initT, T.get_set, T.get_leaf, callA, mapO, ofOpt, ofOptS, ofConst, e1_P, e1_G, partsA, neNil3, neNil2, finW_ret, finW_pan, giveW, resultsA, tupA, fb_lss, fb_leq, fb_gtr, fb_geq, fb_add, fb_sub, fb_eqlI, fb_neqI, Nat.reduceLT, Nat.reduceAdd, Nat.reduceEqDiff, if_true, if_false, reduceIte, true_and, and_true, Option.getD_some, List.getElem?_toArray, List.getElem?_cons_succ, List.getElem?_cons_zero, Option.bind_some, List.nil_append, List.append_nil, beq_self_eq_true, Bool.false_eq_true, Bool.true_eq_false, decide_true, decide_false, Bool.not_true, Bool.not_false, Bool.false_beq, Bool.true_beq, Option.toList, List.head?_cons, List.head?_nil, app22, ld3, ld2, ld22, fa43_0, fa43_1, fa43_2, fa43_3, fa28_0, fa28_1, fa28_2, cellO_box, oExtract, get_put, put_next, get_newBox, newBox_next, lit22_1, lit22_0, AV.noTup, Try.f8, nt3, cl3, hS0, al28, hS1, hn0, hp1, hlen, hge, hld, hst3, hld2]
    exact ⟨l, _, _, S6, rfl, hv, kk, rfl⟩
theorem sl22 (tok off : Nat) (a : Int) (L : List Int) : ∃ u, oSlice Try.prog 22 (.sl tok off 1 ((a :: L).map i64A)) (some (.v (.int .i64 1))) none = some u ∧ rowIs u L := by
  cases L with
  | nil => exact ⟨.sl 0 0 1 [], by simp [oSlice, e22, s2, boundA], .inr ⟨0, 0, rfl⟩⟩
  | cons b L => exact ⟨.sl tok (off + 1) 1 ((b :: L).map i64A), by simp [oSlice, e22, s2, boundA], .inr ⟨_, _, rfl⟩⟩
set_option maxHeartbeats 8000000 in
theorem refTake_no (S : St) (h2 : 2 ≤ S.next) (room most : Nat) {l : AV} (hv : rowIs l []) :
    WC E1 10 [.agg (RefQ l room most)] S (fun x => ∃ S', x = .ret (.tup [.agg (RefQ l room most), .v (.int .i64 0), .v (.bool false)]) S' ∧ KeepB S S') := by
  refine WC_fn Try.f10 (by kernel_rfl) (by kernel_rfl) (by kernel_rfl) (show (_ : Nat) ≤ _ from by show (_ : Nat) ≤ _; simp [Try.f10]) ?_
  have hlen := fun S => len22 S hv
  rw [List.length_nil] at hlen
  generalize hS0 : S.newBox (RefQ l room most) = S0
  generalize hS1 : S0.newBox [.nils, .v (.int .i64 0), .v (.int .i64 0)] = S1
  have hn0 : S0.next = S.next + 1 := by rw [← hS0]; rfl
  have hn1 : S1.next = S.next + 2 := by rw [← hS1, newBox_next, hn0]
  have hp0 : S0.mem.get S.next = some (.box (RefQ l room most)) := by rw [← hS0, get_newBox, if_pos rfl]
  have hp1 : S1.mem.get S.next = some (.box (RefQ l room most)) := by rw [← hS1, get_newBox, if_neg (by omega)]; exact hp0
  have hr1 : S1.mem.get (S.next + 1) = some (.box [.nils, .v (.int .i64 0), .v (.int .i64 0)]) := by rw [← hS1, get_newBox, hn0, if_pos rfl]
  have k1 : KeepB S S1 := by rw [← hS1, ← hS0]; exact (keepB_new _ _).trans (keepB_new _ _)
  have e0 : (((0 : Nat) : Int) == 0) = true := rfl
  have hld := ld28 S1 S.next _ _ _ hp1
  have hst3 := st28 S1 (S.next + 1) l (.v (.int .i64 room)) (.v (.int .i64 (most : Int))) _ _ _ hr1
  generalize hS6 : S1.put (S.next + 1) [l, .v (.int .i64 room), .v (.int .i64 (most : Int))] = S6 at hst3
  have hr6 : S6.mem.get (S.next + 1) = some (.box [l, .v (.int .i64 room), .v (.int .i64 (most : Int))]) := by rw [← hS6, get_put, if_pos rfl]
  have hld2 := ld28 S6 (S.next + 1) _ _ _ hr6
  have kk : KeepB S S6 := by rw [← hS6]; exact keepB_put k1 (Nat.le_succ _) _
  unfold RefQ at hp1 hS0 ⊢
  simp only [thenW_normal, thenW_exit, thenW_ret, thenW_pan, W_skip, W_region, W_drawn, W_seq, W_cond, W_block, W_loop, W_exit, W_ret, seqQ_normal2, seqQ_exit2, seqQ_ret2, seqQ_pan2, blockW_normal2, blockW_ret2, blockW_pan2, blockW_exit2, WL_nil2, WL_cons, execL_no, execL_val2, execL_skip2, execL_enter2, execL_pan2, putL_none2, putL_some2, retL_ret2, retL_pan2, condW_t2, condW_f2, WR_nil2, WR_op, WR_re2, execR_no, execR_val2, execR_skip2, execR_enter2, putRW_none2, putRW_some2, retRW_ret2, fixQ_normal2, wantedA, exec1, evalO, initT, T.get_set, T.get_leaf, callA, mapO, ofOpt, ofOptS, ofConst, e1_P, e1_G, partsA, neNil3, neNil2, finW_ret, finW_pan, giveW, resultsA, tupA, fb_lss, fb_leq, fb_gtr, fb_geq, fb_add, fb_sub, fb_eqlI, fb_neqI, Nat.reduceLT, Nat.reduceAdd, Nat.reduceEqDiff, if_true, if_false, reduceIte, true_and, and_true, Option.getD_some, List.getElem?_toArray, List.getElem?_cons_succ, List.getElem?_cons_zero, Option.bind_some, List.nil_append, List.append_nil, beq_self_eq_true, Bool.false_eq_true, Bool.true_eq_false, decide_true, decide_false, Bool.not_true, Bool.not_false, Bool.false_beq, Bool.true_beq, Option.toList, List.head?_cons, List.head?_nil, app22, ld3, ld2, ld22, fa43_0, fa43_1, fa43_2, fa43_3, fa28_0, fa28_1, fa28_2, cellO_box, oExtract, get_put, put_next, get_newBox, newBox_next, lit22_1, lit22_0, AV.noTup, Try.f10, nt3, cl3, hS0, al28, hS1, hn0, hp1, hlen, e0, hld, hst3, hld2]
  exact ⟨S6, rfl, kk⟩
set_option maxHeartbeats 8000000 in
theorem refTake_yes (S : St) (h2 : 2 ≤ S.next) (room most : Nat) {l : AV} (a : Int) (L : List Int) (hv : rowIs l (a :: L)) (hl : L.length ≤ 1000) :
    WC E1 10 [.agg (RefQ l room most)] S (fun x => ∃ l' S', x = .ret (.tup [.agg (RefQ l' room most), .v (.int .i64 a), .v (.bool true)]) S' ∧ rowIs l' L ∧ KeepB S S') := by
  rcases hv with ⟨_, h⟩ | ⟨tok, off, rfl⟩
  · cases h
  refine WC_fn Try.f10 (by kernel_rfl) (by kernel_rfl) (by kernel_rfl) (show (_ : Nat) ≤ _ from by show (_ : Nat) ≤ _; simp [Try.f10]) ?_
  have hlen := fun S => len22 S (v := .sl tok off 1 ((a :: L).map i64A)) (L := a :: L) (.inr ⟨tok, off, rfl⟩)
  have hix : oIndexAddr Try.prog 22 (.sl tok off 1 ((a :: L).map i64A)) (.v (.int .i64 0)) = some (.ep [.v (.int .i64 a)]) := ix22 tok off (a :: L) 0 (by simp)
  have hep := ld2ep
  obtain ⟨sl, hsl, hslr⟩ := sl22 tok off a L
  generalize hl0 : AV.sl tok off 1 ((a :: L).map i64A) = l at *
  obtain ⟨t0, o0, es0, hl1⟩ : ∃ t0 o0 es0, l = .sl t0 o0 1 es0 := ⟨_, _, _, hl0.symm⟩
  subst hl1
  generalize hS0 : S.newBox (RefQ (.sl t0 o0 1 es0) room most) = S0
  generalize hS1 : S0.newBox [.nils, .v (.int .i64 0), .v (.int .i64 0)] = S1
  have hn0 : S0.next = S.next + 1 := by rw [← hS0]; rfl
  have hn1 : S1.next = S.next + 2 := by rw [← hS1, newBox_next, hn0]
  have hp0 : S0.mem.get S.next = some (.box (RefQ (.sl t0 o0 1 es0) room most)) := by rw [← hS0, get_newBox, if_pos rfl]
  have hp1 : S1.mem.get S.next = some (.box (RefQ (.sl t0 o0 1 es0) room most)) := by rw [← hS1, get_newBox, if_neg (by omega)]; exact hp0
  have hr1 : S1.mem.get (S.next + 1) = some (.box [.nils, .v (.int .i64 0), .v (.int .i64 0)]) := by rw [← hS1, get_newBox, hn0, if_pos rfl]
  have k1 : KeepB S S1 := by rw [← hS1, ← hS0]; exact (keepB_new _ _).trans (keepB_new _ _)
  have e0 : ((((a :: L).length : Nat) : Int) == 0) = false := by simp; omega
  obtain ⟨u2, S3, hap, ha2, k3⟩ := append_w (S := S1) (by omega) (v := .sl 1 0 1 []) (L := []) (.inr (.inl ⟨rfl, rfl⟩)) hslr (by simp; omega)
  rw [List.nil_append] at ha2
  have hp3 := k3.2 _ _ (by omega) hp1
  have hr3 := k3.2 _ _ (by omega) hr1
  have hst := store1 s22 S3 S.next 0 u2 (RefQ (.sl t0 o0 1 es0) room most) (rowIs_one ha2.is) hp3 (by show 0 < 3; decide)
  generalize hS4 : S3.put S.next ((RefQ (.sl t0 o0 1 es0) room most).set 0 u2) = S4 at hst
  have hp4 : S4.mem.get S.next = some (.box (RefQ u2 room most)) := by rw [← hS4, get_put, if_pos rfl]; rfl
  have hr4 : S4.mem.get (S.next + 1) = some (.box [.nils, .v (.int .i64 0), .v (.int .i64 0)]) := by rw [← hS4, get_put, if_neg (by omega)]; exact hr3
  have hld := ld28 S4 S.next _ _ _ hp4
  have hst3 := st28 S4 (S.next + 1) u2 (.v (.int .i64 room)) (.v (.int .i64 (most : Int))) _ _ _ hr4
  generalize hS6 : S4.put (S.next + 1) [u2, .v (.int .i64 room), .v (.int .i64 (most : Int))] = S6 at hst3
  have hr6 : S6.mem.get (S.next + 1) = some (.box [u2, .v (.int .i64 room), .v (.int .i64 (most : Int))]) := by rw [← hS6, get_put, if_pos rfl]
  have hld2 := ld28 S6 (S.next + 1) _ _ _ hr6
  have kk : KeepB S S6 := by
    rw [← hS6, ← hS4]
    exact keepB_put (keepB_put (k1.trans k3) (Nat.le_refl _) _) (Nat.le_succ _) _
  unfold RefQ at hp1 hp4 hS0 ⊢
  simp only [thenW_normal, thenW_exit, thenW_ret, thenW_pan, W_skip, W_region, W_drawn, W_seq, W_cond, W_block, W_loop, W_exit, W_ret, seqQ_normal2, seqQ_exit2, seqQ_ret2, seqQ_pan2, blockW_normal2, blockW_ret2, blockW_pan2, blockW_exit2, WL_nil2, WL_cons, execL_no, execL_val2, execL_skip2, execL_enter2, execL_pan2, putL_none2, putL_some2, retL_ret2, retL_pan2, condW_t2, condW_f2, WR_nil2, WR_op, WR_re2, execR_no, execR_val2, execR_skip2, execR_enter2, putRW_none2, putRW_some2, retRW_ret2, fixQ_normal2, wantedA, exec1, evalO, initT, T.get_set, T.get_leaf, callA, mapO, ofOpt, ofOptS, ofConst, e1_P, e1_G, partsA, neNil3, neNil2, finW_ret, finW_pan, giveW, resultsA, tupA, fb_lss, fb_leq, fb_gtr, fb_geq, fb_add, fb_sub, fb_eqlI, fb_neqI, Nat.reduceLT, Nat.reduceAdd, Nat.reduceEqDiff, if_true, if_false, reduceIte, true_and, and_true, Option.getD_some, List.getElem?_toArray, List.getElem?_cons_succ, List.getElem?_cons_zero, Option.bind_some, List.nil_append, List.append_nil, beq_self_eq_true, Bool.false_eq_true, Bool.true_eq_false, decide_true, decide_false, Bool.not_true, Bool.not_false, Bool.false_beq, Bool.true_beq, Option.toList, List.head?_cons, List.head?_nil, app22, ld3, ld2, ld22, fa43_0, fa43_1, fa43_2, fa43_3, fa28_0, fa28_1, fa28_2, cellO_box, oExtract, get_put, put_next, get_newBox, newBox_next, lit22_1, lit22_0, AV.noTup, Try.f10, nt3, cl3, hS0, al28, hS1, hn0, hp1, hlen, e0, hix, hep, hsl, hap, hst, hld, hst3, hld2]
  exact ⟨u2, S6, rfl, ha2.is, kk⟩
-- awake
theorem neNil25 (p : Nat) : neNil Try.prog 25 (.ptr p 0) .nilp = true := by kernel_rfl
theorem fnOk6 : ∃ fn, E1.F 6 = some fn := Option.isSome_iff_exists.1 (by kernel_rfl)
theorem fnOk7 : ∃ fn, E1.F 7 = some fn := Option.isSome_iff_exists.1 (by kernel_rfl)
theorem fnOk8 : ∃ fn, E1.F 8 = some fn := Option.isSome_iff_exists.1 (by kernel_rfl)
theorem fnOk9 : ∃ fn, E1.F 9 = some fn := Option.isSome_iff_exists.1 (by kernel_rfl)
theorem fnOk10 : ∃ fn, E1.F 10 = some fn := Option.isSome_iff_exists.1 (by kernel_rfl)
theorem fnOk11 : ∃ fn, E1.F 11 = some fn := Option.isSome_iff_exists.1 (by kernel_rfl)
theorem fnOk12 : ∃ fn, E1.F 12 = some fn := Option.isSome_iff_exists.1 (by kernel_rfl)
theorem fnOk13 : ∃ fn, E1.F 13 = some fn := Option.isSome_iff_exists.1 (by kernel_rfl)
theorem fnOk5 : ∃ fn, E1.F 5 = some fn := Option.isSome_iff_exists.1 (by kernel_rfl)
set_option maxHeartbeats 8000000 in
theorem awake_w (S : St) (h2 : 2 ≤ S.next) : WC E1 5 [] S (fun x => ∃ S', x = .ret (.v (.bool true)) S' ∧ 2 ≤ S'.next) := by
  refine WC_fn Try.f5 (by kernel_rfl) (by kernel_rfl) (by kernel_rfl) (show (_ : Nat) ≤ _ from by show (_ : Nat) ≤ _; simp [Try.f5]) ?_
  obtain ⟨fn6, hf6⟩ := fnOk6
  obtain ⟨fn9, hf9⟩ := fnOk9
  obtain ⟨fn11, hf11⟩ := fnOk11
  obtain ⟨fn14, hf14⟩ := fnOk14
  simp only [thenW_normal, thenW_exit, thenW_ret, thenW_pan, W_skip, W_region, W_drawn, W_seq, W_cond, W_block, W_loop, W_exit, W_ret, seqQ_normal2, seqQ_exit2, seqQ_ret2, seqQ_pan2, blockW_normal2, blockW_ret2, blockW_pan2, blockW_exit2, WL_nil2, WL_cons, execL_no, execL_val2, execL_skip2, execL_enter2, execL_pan2, putL_none2, putL_some2, retL_ret2, retL_pan2, condW_t2, condW_f2, WR_nil2, WR_op, WR_re2, execR_no, execR_val2, execR_skip2, execR_enter2, putRW_none2, putRW_some2, retRW_ret2, fixQ_normal2, wantedA, exec1, evalO, initT, T.get_set, T.get_leaf, callA, mapO, ofOpt, ofOptS, ofConst, e1_P, e1_G, partsA, neNil3, neNil2, finW_ret, finW_pan, giveW, resultsA, tupA, fb_lss, fb_leq, fb_gtr, fb_geq, fb_add, fb_sub, fb_eqlI, fb_neqI, Nat.reduceLT, Nat.reduceAdd, Nat.reduceEqDiff, if_true, if_false, reduceIte, true_and, and_true, Option.getD_some, List.getElem?_toArray, List.getElem?_cons_succ, List.getElem?_cons_zero, Option.bind_some, List.nil_append, List.append_nil, beq_self_eq_true, Bool.false_eq_true, Bool.true_eq_false, decide_true, decide_false, Bool.not_true, Bool.not_false, Bool.false_beq, Bool.true_beq, Option.toList, List.head?_cons, List.head?_nil, app22, ld3, ld2, ld22, fa43_0, fa43_1, fa43_2, fa43_3, fa28_0, fa28_1, fa28_2, cellO_box, oExtract, get_put, put_next, get_newBox, newBox_next, lit22_1, lit22_0, AV.noTup, Try.f5, hf6]
  refine WC.mono (new_w S h2 2 (by decide) (v := .sl 1 0 1 [.v (.int .i64 7)]) (L := [7]) (.inr ⟨1, 0, rfl⟩) (by decide)) ?_
  rintro _ ⟨cs, S1, rfl, hQ, k1⟩
  simp only [thenW_normal, thenW_exit, thenW_ret, thenW_pan, W_skip, W_region, W_drawn, W_seq, W_cond, W_block, W_loop, W_exit, W_ret, seqQ_normal2, seqQ_exit2, seqQ_ret2, seqQ_pan2, blockW_normal2, blockW_ret2, blockW_pan2, blockW_exit2, WL_nil2, WL_cons, execL_no, execL_val2, execL_skip2, execL_enter2, execL_pan2, putL_none2, putL_some2, retL_ret2, retL_pan2, condW_t2, condW_f2, WR_nil2, WR_op, WR_re2, execR_no, execR_val2, execR_skip2, execR_enter2, putRW_none2, putRW_some2, retRW_ret2, fixQ_normal2, wantedA, exec1, evalO, initT, T.get_set, T.get_leaf, callA, mapO, ofOpt, ofOptS, ofConst, e1_P, e1_G, partsA, neNil3, neNil2, finW_ret, finW_pan, giveW, resultsA, tupA, fb_lss, fb_leq, fb_gtr, fb_geq, fb_add, fb_sub, fb_eqlI, fb_neqI, Nat.reduceLT, Nat.reduceAdd, Nat.reduceEqDiff, if_true, if_false, reduceIte, true_and, and_true, Option.getD_some, List.getElem?_toArray, List.getElem?_cons_succ, List.getElem?_cons_zero, Option.bind_some, List.nil_append, List.append_nil, beq_self_eq_true, Bool.false_eq_true, Bool.true_eq_false, decide_true, decide_false, Bool.not_true, Bool.not_false, Bool.false_beq, Bool.true_beq, Option.toList, List.head?_cons, List.head?_nil, app22, ld3, ld2, ld22, fa43_0, fa43_1, fa43_2, fa43_3, fa28_0, fa28_1, fa28_2, cellO_box, oExtract, get_put, put_next, get_newBox, newBox_next, lit22_1, lit22_0, AV.noTup, Try.f5, neNil25, hf9]
  refine WC.mono (put_yes S1 _ _ _ _ _ _ _ 8 hQ (by decide)) ?_
  rintro _ ⟨S2, rfl, hQ2, o2⟩
  simp only [thenW_normal, thenW_exit, thenW_ret, thenW_pan, W_skip, W_region, W_drawn, W_seq, W_cond, W_block, W_loop, W_exit, W_ret, seqQ_normal2, seqQ_exit2, seqQ_ret2, seqQ_pan2, blockW_normal2, blockW_ret2, blockW_pan2, blockW_exit2, WL_nil2, WL_cons, execL_no, execL_val2, execL_skip2, execL_enter2, execL_pan2, putL_none2, putL_some2, retL_ret2, retL_pan2, condW_t2, condW_f2, WR_nil2, WR_op, WR_re2, execR_no, execR_val2, execR_skip2, execR_enter2, putRW_none2, putRW_some2, retRW_ret2, fixQ_normal2, wantedA, exec1, evalO, initT, T.get_set, T.get_leaf, callA, mapO, ofOpt, ofOptS, ofConst, e1_P, e1_G, partsA, neNil3, neNil2, finW_ret, finW_pan, giveW, resultsA, tupA, fb_lss, fb_leq, fb_gtr, fb_geq, fb_add, fb_sub, fb_eqlI, fb_neqI, Nat.reduceLT, Nat.reduceAdd, Nat.reduceEqDiff, if_true, if_false, reduceIte, true_and, and_true, Option.getD_some, List.getElem?_toArray, List.getElem?_cons_succ, List.getElem?_cons_zero, Option.bind_some, List.nil_append, List.append_nil, beq_self_eq_true, Bool.false_eq_true, Bool.true_eq_false, decide_true, decide_false, Bool.not_true, Bool.not_false, Bool.false_beq, Bool.true_beq, Option.toList, List.head?_cons, List.head?_nil, app22, ld3, ld2, ld22, fa43_0, fa43_1, fa43_2, fa43_3, fa28_0, fa28_1, fa28_2, cellO_box, oExtract, get_put, put_next, get_newBox, newBox_next, lit22_1, lit22_0, AV.noTup, Try.f5, hf9]
  refine WC.mono (put_no S2 _ _ _ _ _ _ _ 9 hQ2 (by decide)) ?_
  rintro _ rfl
  simp only [thenW_normal, thenW_exit, thenW_ret, thenW_pan, W_skip, W_region, W_drawn, W_seq, W_cond, W_block, W_loop, W_exit, W_ret, seqQ_normal2, seqQ_exit2, seqQ_ret2, seqQ_pan2, blockW_normal2, blockW_ret2, blockW_pan2, blockW_exit2, WL_nil2, WL_cons, execL_no, execL_val2, execL_skip2, execL_enter2, execL_pan2, putL_none2, putL_some2, retL_ret2, retL_pan2, condW_t2, condW_f2, WR_nil2, WR_op, WR_re2, execR_no, execR_val2, execR_skip2, execR_enter2, putRW_none2, putRW_some2, retRW_ret2, fixQ_normal2, wantedA, exec1, evalO, initT, T.get_set, T.get_leaf, callA, mapO, ofOpt, ofOptS, ofConst, e1_P, e1_G, partsA, neNil3, neNil2, finW_ret, finW_pan, giveW, resultsA, tupA, fb_lss, fb_leq, fb_gtr, fb_geq, fb_add, fb_sub, fb_eqlI, fb_neqI, Nat.reduceLT, Nat.reduceAdd, Nat.reduceEqDiff, if_true, if_false, reduceIte, true_and, and_true, Option.getD_some, List.getElem?_toArray, List.getElem?_cons_succ, List.getElem?_cons_zero, Option.bind_some, List.nil_append, List.append_nil, beq_self_eq_true, Bool.false_eq_true, Bool.true_eq_false, decide_true, decide_false, Bool.not_true, Bool.not_false, Bool.false_beq, Bool.true_beq, Option.toList, List.head?_cons, List.head?_nil, app22, ld3, ld2, ld22, fa43_0, fa43_1, fa43_2, fa43_3, fa28_0, fa28_1, fa28_2, cellO_box, oExtract, get_put, put_next, get_newBox, newBox_next, lit22_1, lit22_0, AV.noTup, Try.f5, hf11]
  refine WC.mono (take_yes S2 _ _ _ _ _ _ 7 [8] hQ2) ?_
  rintro _ ⟨S3, rfl, hQ3, o3⟩
  have e7 : ((7 : Int) == 7) = true := rfl
  simp only [thenW_normal, thenW_exit, thenW_ret, thenW_pan, W_skip, W_region, W_drawn, W_seq, W_cond, W_block, W_loop, W_exit, W_ret, seqQ_normal2, seqQ_exit2, seqQ_ret2, seqQ_pan2, blockW_normal2, blockW_ret2, blockW_pan2, blockW_exit2, WL_nil2, WL_cons, execL_no, execL_val2, execL_skip2, execL_enter2, execL_pan2, putL_none2, putL_some2, retL_ret2, retL_pan2, condW_t2, condW_f2, WR_nil2, WR_op, WR_re2, execR_no, execR_val2, execR_skip2, execR_enter2, putRW_none2, putRW_some2, retRW_ret2, fixQ_normal2, wantedA, exec1, evalO, initT, T.get_set, T.get_leaf, callA, mapO, ofOpt, ofOptS, ofConst, e1_P, e1_G, partsA, neNil3, neNil2, finW_ret, finW_pan, giveW, resultsA, tupA, fb_lss, fb_leq, fb_gtr, fb_geq, fb_add, fb_sub, fb_eqlI, fb_neqI, Nat.reduceLT, Nat.reduceAdd, Nat.reduceEqDiff, if_true, if_false, reduceIte, true_and, and_true, Option.getD_some, List.getElem?_toArray, List.getElem?_cons_succ, List.getElem?_cons_zero, Option.bind_some, List.nil_append, List.append_nil, beq_self_eq_true, Bool.false_eq_true, Bool.true_eq_false, decide_true, decide_false, Bool.not_true, Bool.not_false, Bool.false_beq, Bool.true_beq, Option.toList, List.head?_cons, List.head?_nil, app22, ld3, ld2, ld22, fa43_0, fa43_1, fa43_2, fa43_3, fa28_0, fa28_1, fa28_2, cellO_box, oExtract, get_put, put_next, get_newBox, newBox_next, lit22_1, lit22_0, AV.noTup, Try.f5, hf14, ground_not, notO_bool, e7]
  refine WC.mono (len_w S3 _ _ _ _ _ _ hQ3.hq) ?_
  rintro _ rfl
  have e1 : ((([8] : List Int).length : Int) == 1) = true := rfl
  simp only [thenW_normal, thenW_exit, thenW_ret, thenW_pan, W_skip, W_region, W_drawn, W_seq, W_cond, W_block, W_loop, W_exit, W_ret, seqQ_normal2, seqQ_exit2, seqQ_ret2, seqQ_pan2, blockW_normal2, blockW_ret2, blockW_pan2, blockW_exit2, WL_nil2, WL_cons, execL_no, execL_val2, execL_skip2, execL_enter2, execL_pan2, putL_none2, putL_some2, retL_ret2, retL_pan2, condW_t2, condW_f2, WR_nil2, WR_op, WR_re2, execR_no, execR_val2, execR_skip2, execR_enter2, putRW_none2, putRW_some2, retRW_ret2, fixQ_normal2, wantedA, exec1, evalO, initT, T.get_set, T.get_leaf, callA, mapO, ofOpt, ofOptS, ofConst, e1_P, e1_G, partsA, neNil3, neNil2, finW_ret, finW_pan, giveW, resultsA, tupA, fb_lss, fb_leq, fb_gtr, fb_geq, fb_add, fb_sub, fb_eqlI, fb_neqI, Nat.reduceLT, Nat.reduceAdd, Nat.reduceEqDiff, if_true, if_false, reduceIte, true_and, and_true, Option.getD_some, List.getElem?_toArray, List.getElem?_cons_succ, List.getElem?_cons_zero, Option.bind_some, List.nil_append, List.append_nil, beq_self_eq_true, Bool.false_eq_true, Bool.true_eq_false, decide_true, decide_false, Bool.not_true, Bool.not_false, Bool.false_beq, Bool.true_beq, Option.toList, List.head?_cons, List.head?_nil, app22, ld3, ld2, ld22, fa43_0, fa43_1, fa43_2, fa43_3, fa28_0, fa28_1, fa28_2, cellO_box, oExtract, get_put, put_next, get_newBox, newBox_next, lit22_1, lit22_0, AV.noTup, Try.f5, e1]
  exact ⟨S3, rfl, by rw [o3.1, o2.1]; exact Nat.le_trans h2 k1.1⟩
end Go.Ax
