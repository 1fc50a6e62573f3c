/-
  SoloClocks: true, whatever comes in.
-/
import Derived.Test.YtpjffjgdnendbaaGreatDoorWUhsc
import Derived.Test.YtpjffjgdnendbaaGreatDoorWUj
noncomputable section
namespace Go.Ax
open Go.RowKit Go.Proofs
set_option linter.unusedVariables false
set_option linter.unusedSimpArgs false
set_option maxRecDepth 100000

set_option maxHeartbeats 8000000 in
theorem sc_rest (na : AV) (bs : List Bool) (hna : isRowB na bs) (f : T AV) (S : St) (h0 : f.get 0 = some na) (h5 : f.get 5 = some (.ptr 2950 0)) (h6 : f.get 6 = some (.v (.bool true))) (hS : ScI S 0 0) :
    W (E2 3014 [2950, 2949, 3013]) 52 scRest ⟨f, []⟩ S (fun r => ∃ f' S', r = .out .ret ⟨f', []⟩ S' ∧ f'.get 2 = some (.v (.bool true))) := by
  simp only [thenW_normal, thenW_exit, thenW_ret, thenW_pan, W_skip, W_region, W_drawn, W_seq, W_cond, W_block, W_loop, W_exit, W_ret, seqQ_normal2, seqQ_exit2, seqQ_ret2, seqQ_pan2, blockW_normal2, blockW_ret2, blockW_pan2, blockW_exit2, WL_nil2, WL_cons, execL_no, execL_val2, execL_skip2, execL_enter2, execL_pan2, putL_none2, putL_some2, retL_ret2, retL_pan2, condW_t2, condW_f2, wantedA, exec1, evalO, initT, T.get_set, T.get_leaf, callA, mapO, ofOpt, ofOptS, ofConst, e2_P, e2_G, partsA, neNil3, finW_ret, finW_pan, giveW, resultsA, tupA, ground_not, notO_bool, fb_lss, fb_leq, fb_gtr, fb_geq, fb_add, fb_eqlI, fb_neqI, Nat.reduceLT, Nat.reduceAdd, Nat.reduceEqDiff, if_true, if_false, reduceIte, true_and, and_true, Option.getD_some, List.getElem?_toArray, List.getElem?_cons_succ, List.getElem?_cons_zero, Option.bind_some, List.nil_append, List.append_nil, beq_self_eq_true, Bool.false_eq_true, Bool.true_eq_false, decide_true, decide_false, Bool.not_true, Bool.not_false, Bool.false_beq, Bool.true_beq, Option.toList, List.head?_cons, List.head?_nil, WR_nil2, WR_op, WR_re2, execR_no, execR_val2, execR_skip2, execR_enter2, execR_pan2, putRW_none2, putRW_some2, retRW_ret2, retRW_pan2, fixQ_normal2, fixQ_pan2, rsOf, scRest, Tryz.f4, h6]
  refine WX.mono (sc_loop na bs hna (min bs.length 40) 0 _ S (by omega) hS ?_ ?_ ?_ ?_ ?_) ?_
  · simp only [T.get_set, Nat.reduceEqDiff, if_false, h0]
  · simp only [T.get_set, Nat.reduceEqDiff, if_false, h5]
  · simp only [T.get_set, Nat.reduceEqDiff, if_false, if_true]; rfl
  · simp only [T.get_set, Nat.reduceEqDiff, if_false, if_true]; rfl
  · simp only [T.get_set, Nat.reduceEqDiff, if_true]; rfl
  rintro _ ⟨t', S', rfl⟩
  simp only [thenW_normal, thenW_exit, thenW_ret, thenW_pan, W_skip, W_region, W_drawn, W_seq, W_cond, W_block, W_loop, W_exit, W_ret, seqQ_normal2, seqQ_exit2, seqQ_ret2, seqQ_pan2, blockW_normal2, blockW_ret2, blockW_pan2, blockW_exit2, WL_nil2, WL_cons, execL_no, execL_val2, execL_skip2, execL_enter2, execL_pan2, putL_none2, putL_some2, retL_ret2, retL_pan2, condW_t2, condW_f2, wantedA, exec1, evalO, initT, T.get_set, T.get_leaf, callA, mapO, ofOpt, ofOptS, ofConst, e2_P, e2_G, partsA, neNil3, finW_ret, finW_pan, giveW, resultsA, tupA, ground_not, notO_bool, fb_lss, fb_leq, fb_gtr, fb_geq, fb_add, fb_eqlI, fb_neqI, Nat.reduceLT, Nat.reduceAdd, Nat.reduceEqDiff, if_true, if_false, reduceIte, true_and, and_true, Option.getD_some, List.getElem?_toArray, List.getElem?_cons_succ, List.getElem?_cons_zero, Option.bind_some, List.nil_append, List.append_nil, beq_self_eq_true, Bool.false_eq_true, Bool.true_eq_false, decide_true, decide_false, Bool.not_true, Bool.not_false, Bool.false_beq, Bool.true_beq, Option.toList, List.head?_cons, List.head?_nil, WR_nil2, WR_op, WR_re2, execR_no, execR_val2, execR_skip2, execR_enter2, execR_pan2, putRW_none2, putRW_some2, retRW_ret2, retRW_pan2, fixQ_normal2, fixQ_pan2, rsOf, scRest, Tryz.f4, h6]
  exact ⟨_, _, rfl, by simp only [T.get_set, Nat.reduceEqDiff, if_true]⟩
theorem scI0 {na : AV} : (outF (scO2 na)).get 0 = some na ∧ (outF (scO2 na)).get 5 = some (.ptr 2950 0) ∧ (outF (scO2 na)).get 6 = some (.v (.bool true)) ∧ ScI (outS (scO2 na)) 0 0 := by
  obtain ⟨_, h2, h3, h4⟩ := lookO_spec (scO2_ok na)
  simp only [List.map_cons, List.map_nil, List.cons.injEq, and_true] at h3 h4
  refine ⟨h3.1, h3.2.1, h3.2.2, ScI.of ⟨by omega, h4.1, h4.2.1, h4.2.2⟩ ?_⟩
  exact ⟨rfl, rfl, rfl, rfl, rfl, rfl, rfl⟩
theorem soloClocks_any (v0 : Value) (w : World) (hv0 : BoolIn w v0) : Calls Tryz.prog 4 #[v0] w fun x w' => x = .returned (.bool true) ∧ Below w.heap.size w w' := by
  obtain ⟨bs, na, hn, hna⟩ := hv0
  go_enter Tryz.func4, Tryz.ntmps4
  refine wp_seq_k fun K0 h0 => ?_
  have H0 := Lib.hid h0; clear h0
  go_wp2_with fail
  refine H0.out _ _ ?_
  clear H0 K0
  refine wp_seq_k fun K1 h1 => ?_
  have H1 := Lib.hid h1; clear h1
  go_wp2_with fail
  refine (solo_awake w).mono ?_
  rintro x w1 ⟨rfl, hb1⟩
  go_wp2_with fail
  refine H1.out _ _ ?_
  clear H1 K1
  obtain ⟨k1, _⟩ : scO1 na = .out .normal ⟨outF (scO1 na), []⟩ (outS (scO1 na)) ∧ True := by
    obtain ⟨x, hx⟩ := Option.isSome_iff_exists.1 (scO1_ok na)
    obtain ⟨n, vs, cs⟩ := x
    exact ⟨(lookO_spec hx).1, trivial⟩
  have k2 := (lookO_spec (scO2_ok na)).1
  refine wp_seq_k fun K2 h2 => ?_
  refine codeX_norm (c := scR3) (E := E1) e1_ok e1_intr e1_mix rfl (m := 2000) (n := 52) (f := frL [(0, na)]) (S := St0) (r := scO1 na) rfl k1 (SR.whole w1) (frL_ok _ ?_) rfl rfl ?_
  · intro p hp
    simp only [List.mem_cons, List.not_mem_nil, or_false] at hp
    subst hp
    exact ⟨_, rfl, hna w1 hb1⟩
  intro act2 w2 γ2 hn2 hd2 hS2 hf2
  refine h2 _ _ ?_
  clear h2 K2
  refine wp_seq_k fun K3 h3 => ?_
  refine codeX_norm (c := scR4) (E := E1) e1_ok e1_intr e1_mix rfl (m := 2000) (n := 52) (f := outF (scO1 na)) (S := outS (scO1 na)) (r := scO2 na) rfl k2 hS2 hf2 hn2 hd2 ?_
  intro act3 w3 γ3 hn3 hd3 hS3 hf3
  refine h3 _ _ ?_
  clear h3 K3
  obtain ⟨g0, g5, g6, gS⟩ := scI0 (na := na)
  refine codeW (c := scRest) (E := (E2 3014 [2950, 2949, 3013])) (t := 2) (n := 52) (e2_ok 3014 [2950, 2949, 3013]) (e2_intr 3014 [2950, 2949, 3013]) (e2_mix 3014 [2950, 2949, 3013]) rfl (sc_rest na bs hn _ _ g0 g5 g6 gS) hS3 hf3 hn3 hd3 ?_
  intro act' w' hs hd ht hb2
  refine ⟨hd, .bool true, ?_, rfl, hb1.trans (hb2.mono hb1.size)⟩
  have h4 : act'.tmps.getD 2 undef = .bool true := by simp [Array.getD_eq_getD_getElem?, ht]
  simp [results, Tryz.f4, h4, go_sem, ht]
end Go.Ax
