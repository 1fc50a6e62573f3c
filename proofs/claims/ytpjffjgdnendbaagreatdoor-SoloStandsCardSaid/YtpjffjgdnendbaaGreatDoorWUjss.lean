/-
  SoloStands: true, whatever comes in.
-/
import Derived.Test.YtpjffjgdnendbaaGreatDoorWUiss
noncomputable section
namespace Go.Ax
open Go.RowKit Go.Proofs
set_option linter.unusedVariables false
set_option linter.unusedSimpArgs false
set_option maxRecDepth 100000

theorem wC5 (na : AV) (f : T AV) (S : St) (h0 : f.get 0 = some na) (h5 : f.get 5 = some (.ptr 2300 0)) (h6 : f.get 6 = some (.v (.bool true))) : W (E2 2363 [2300, 2299, 2362]) 59 ssC5 ⟨f, []⟩ S (fun r => ∃ f', r = .out .normal ⟨f', []⟩ S ∧ f'.get 0 = some na ∧ f'.get 5 = some (.ptr 2300 0)) := by
  simp only [thenW_normal, thenW_exit, thenW_ret, thenW_pan, W_skip, W_region, W_drawn, W_seq, W_cond, W_block, W_loop, W_exit, W_ret, seqQ_normal2, seqQ_exit2, seqQ_ret2, seqQ_pan2, blockW_normal2, blockW_ret2, blockW_pan2, blockW_exit2, WL_nil2, WL_cons, execL_no, execL_val2, execL_skip2, execL_enter2, execL_pan2, putL_none2, putL_some2, retL_ret2, retL_pan2, condW_t2, condW_f2, wantedA, exec1, evalO, initT, T.get_set, T.get_leaf, callA, mapO, ofOpt, ofOptS, ofConst, e2_P, e2_G, partsA, neNil3, finW_ret, finW_pan, giveW, resultsA, tupA, ground_not, notO_bool, fb_lss, fb_leq, fb_gtr, fb_geq, fb_add, fb_eqlI, fb_neqI, Nat.reduceLT, Nat.reduceAdd, Nat.reduceEqDiff, if_true, if_false, reduceIte, true_and, and_true, Option.getD_some, List.getElem?_toArray, List.getElem?_cons_succ, List.getElem?_cons_zero, Option.bind_some, List.nil_append, List.append_nil, beq_self_eq_true, Bool.false_eq_true, Bool.true_eq_false, decide_true, decide_false, Bool.not_true, Bool.not_false, Bool.false_beq, Bool.true_beq, Option.toList, List.head?_cons, List.head?_nil, WR_nil2, WR_op, WR_re2, execR_no, execR_val2, execR_skip2, execR_enter2, execR_pan2, putRW_none2, putRW_some2, retRW_ret2, retRW_pan2, fixQ_normal2, fixQ_pan2, rsOf, ssC5, ssRest, Tryz.f5, h6]
  exact ⟨_, rfl, by simp only [T.get_set, Nat.reduceEqDiff, if_false, h0], by simp only [T.get_set, Nat.reduceEqDiff, if_false, h5]⟩
theorem wR7 (na : AV) (f : T AV) (S : St) (h0 : f.get 0 = some na) (h5 : f.get 5 = some (.ptr 2300 0)) : W (E2 2363 [2300, 2299, 2362]) 59 ssR7 ⟨f, []⟩ S (fun r => ∃ f', r = .out .normal ⟨f', []⟩ S ∧ Fs f' na 0) := by
  simp only [thenW_normal, thenW_exit, thenW_ret, thenW_pan, W_skip, W_region, W_drawn, W_seq, W_cond, W_block, W_loop, W_exit, W_ret, seqQ_normal2, seqQ_exit2, seqQ_ret2, seqQ_pan2, blockW_normal2, blockW_ret2, blockW_pan2, blockW_exit2, WL_nil2, WL_cons, execL_no, execL_val2, execL_skip2, execL_enter2, execL_pan2, putL_none2, putL_some2, retL_ret2, retL_pan2, condW_t2, condW_f2, wantedA, exec1, evalO, initT, T.get_set, T.get_leaf, callA, mapO, ofOpt, ofOptS, ofConst, e2_P, e2_G, partsA, neNil3, finW_ret, finW_pan, giveW, resultsA, tupA, ground_not, notO_bool, fb_lss, fb_leq, fb_gtr, fb_geq, fb_add, fb_eqlI, fb_neqI, Nat.reduceLT, Nat.reduceAdd, Nat.reduceEqDiff, if_true, if_false, reduceIte, true_and, and_true, Option.getD_some, List.getElem?_toArray, List.getElem?_cons_succ, List.getElem?_cons_zero, Option.bind_some, List.nil_append, List.append_nil, beq_self_eq_true, Bool.false_eq_true, Bool.true_eq_false, decide_true, decide_false, Bool.not_true, Bool.not_false, Bool.false_beq, Bool.true_beq, Option.toList, List.head?_cons, List.head?_nil, WR_nil2, WR_op, WR_re2, execR_no, execR_val2, execR_skip2, execR_enter2, execR_pan2, putRW_none2, putRW_some2, retRW_ret2, retRW_pan2, fixQ_normal2, fixQ_pan2, rsOf, ssR7, ssRest, Tryz.f5]
  exact ⟨_, rfl, by simp only [T.get_set, Nat.reduceEqDiff, if_false, h0], by simp only [T.get_set, Nat.reduceEqDiff, if_false, h5], by simp only [T.get_set, Nat.reduceEqDiff, if_true]; rfl⟩
theorem wEnd (f : T AV) (S : St) : W (E2 2363 [2300, 2299, 2362]) 59 ssEnd ⟨f, []⟩ S (fun r => ∃ f' S', r = .out .ret ⟨f', []⟩ S' ∧ f'.get 2 = some (.v (.bool true))) := by
  simp only [thenW_normal, thenW_exit, thenW_ret, thenW_pan, W_skip, W_region, W_drawn, W_seq, W_cond, W_block, W_loop, W_exit, W_ret, seqQ_normal2, seqQ_exit2, seqQ_ret2, seqQ_pan2, blockW_normal2, blockW_ret2, blockW_pan2, blockW_exit2, WL_nil2, WL_cons, execL_no, execL_val2, execL_skip2, execL_enter2, execL_pan2, putL_none2, putL_some2, retL_ret2, retL_pan2, condW_t2, condW_f2, wantedA, exec1, evalO, initT, T.get_set, T.get_leaf, callA, mapO, ofOpt, ofOptS, ofConst, e2_P, e2_G, partsA, neNil3, finW_ret, finW_pan, giveW, resultsA, tupA, ground_not, notO_bool, fb_lss, fb_leq, fb_gtr, fb_geq, fb_add, fb_eqlI, fb_neqI, Nat.reduceLT, Nat.reduceAdd, Nat.reduceEqDiff, if_true, if_false, reduceIte, true_and, and_true, Option.getD_some, List.getElem?_toArray, List.getElem?_cons_succ, List.getElem?_cons_zero, Option.bind_some, List.nil_append, List.append_nil, beq_self_eq_true, Bool.false_eq_true, Bool.true_eq_false, decide_true, decide_false, Bool.not_true, Bool.not_false, Bool.false_beq, Bool.true_beq, Option.toList, List.head?_cons, List.head?_nil, WR_nil2, WR_op, WR_re2, execR_no, execR_val2, execR_skip2, execR_enter2, execR_pan2, putRW_none2, putRW_some2, retRW_ret2, retRW_pan2, fixQ_normal2, fixQ_pan2, rsOf, ssEnd, ssRest, Tryz.f5]
  exact ⟨_, _, rfl, by simp only [T.get_set, Nat.reduceEqDiff, if_true]⟩
def num7 (act : Act) : Nat := match act.tmps.getD 7 undef with
  | .int _ n => n.toNat
  | _ => 0
theorem num7_of {γ : Gh} {w : World} {f : T AV} {act : Act} {na : AV} {i : Nat} (hf : FR γ w f act.tmps) (h : Fs f na i) : num7 act = i := by
  obtain ⟨_, hv⟩ := hf 7 _ h.g7
  unfold num7
  generalize act.tmps.getD 7 undef = z at hv
  cases hv
  simp
theorem ss_code (na : AV) (bs : List Bool) (hna : isRowB na bs) {Q : Exit → Act → World → Prop} {act : Act} {γ : Gh} {base : Nat} {w0 w : World} {f : T AV} {S : St} (h0 : f.get 0 = some na) (h5 : f.get 5 = some (.ptr 2300 0)) (h6 : f.get 6 = some (.v (.bool true))) (hI : SsI S 0)
    (hS : SR base w0 γ S w) (hf : FR γ w f act.tmps) (hn : act.tmps.size = 59) (hd : act.defers = [])
    (hQ : ∀ act' w', act'.tmps.size = 59 → act'.defers = [] → act'.tmps[2]? = some (.bool true) → Below base w0 w' → Q .ret act' w') : ssRest.wp Tryz.prog Q act w := by
  have eok := e2_ok 2363 [2300, 2299, 2362]
  have eintr := e2_intr 2363 [2300, 2299, 2362]
  have emix := e2_mix 2363 [2300, 2299, 2362]
  rw [ssRest_eq]
  refine wp_seq_k fun K1 g1 => ?_
  refine codeWg (E := (E2 2363 [2300, 2299, 2362])) eok eintr emix rfl (wC5 na f S h0 h5 h6) hS hf hn hd ?_
  rintro _ ⟨f1, rfl, q0, q5⟩
  intro γ1 act1 w1 hS1 hx1 ha1
  refine g1 _ _ ?_
  refine wp_seq_k fun K2 g2 => ?_
  refine wp_seq_k fun K3 g3 => ?_
  refine codeWg (E := (E2 2363 [2300, 2299, 2362])) eok eintr emix rfl (wR7 na f1 S q0 q5) hS1 ha1.tmps ha1.size (dfr_nil ha1) ?_
  rintro _ ⟨f2, rfl, hF2⟩
  intro γ2 act2 w2 hS2 hx2 ha2
  refine g3 _ _ ?_
  refine wp_block ?_
  refine wp_loop (fun a w => ∃ (i : Nat) (f : T AV) (S : St) (γ : Gh), i ≤ 40 ∧ SR base w0 γ S w ∧ AR γ w 59 ⟨f, []⟩ a ∧ Fs f na i ∧ SsI S i) (fun a w => 41 - num7 a) ⟨0, f2, S, γ2, by omega, hS2, ha2, hF2, hI⟩ ?_
  rintro a w3 ⟨i, f3, S3, γ3, hi, hS3, ha3, hF3, hI3⟩
  rw [ssC_eq]
  refine wp_seq_k fun K4 g4 => ?_
  refine codeWg (E := (E2 2363 [2300, 2299, 2362])) eok eintr emix rfl (wA na bs hna i f3 S3 hF3) hS3 ha3.tmps ha3.size (dfr_nil ha3) ?_
  rintro _ (⟨hil, hi40, f4, rfl, hF4⟩ | ⟨f4, rfl⟩)
  case inr =>
    intro γ4 act4 w4 hS4 hx4 ha4
    have key : K2 act4 w4 := g2 _ _ (codeW (E := (E2 2363 [2300, 2299, 2362])) (t := 2) (n := 59) eok eintr emix rfl (wEnd f4 S3) hS4 ha4.tmps ha4.size (dfr_nil ha4) hQ)
    show (if (0 : Nat) = 0 then K2 act4 w4 else Q (.exit 0) act4 w4)
    rw [if_pos rfl]; exact key
  intro γ4 act4 w4 hS4 hx4 ha4
  refine g4 _ _ ?_
  refine wp_seq_k fun K5 g5 => ?_
  refine wp_block ?_
  refine wp_seq_k fun K6 g6 => ?_
  refine codeWg (E := (E2 2363 [2300, 2299, 2362])) eok eintr emix rfl (w10 na i (by omega) f4 S3 hF4) hS4 ha4.tmps ha4.size (dfr_nil ha4) ?_
  rintro _ ⟨f5, rfl, hF5, h58⟩
  intro γ5 act5 w5 hS5 hx5 ha5
  refine g6 _ _ ?_
  refine wp_seq_k fun K7 g7 => ?_
  obtain ⟨f6, hrun, hF6, h68, h69, h610⟩ := b11 na i (by omega) f5 S3 hF5 h58
  refine region_B (E := (E2 2363 [2300, 2299, 2362])) eok rfl hrun hS5 ha5.tmps ha5.size (dfr_nil ha5) ?_
  intro act6 w6 γ6 hn6 hd6 hS6 hf6
  refine g7 _ _ ?_
  refine codeWg (E := (E2 2363 [2300, 2299, 2362])) eok eintr emix rfl (wY na bs hna i hil hi40 S3.next hI3.next f6 _ hI3.new (new_get S3 _) hF6 h68 h69 h610) hS6 hf6 hn6 hd6 ?_
  rintro _ ⟨f7, S7, rfl, hF7, hI7⟩
  intro γ7 act7 w7 hS7 hx7 ha7
  refine g5 _ _ ?_
  refine codeWg (E := (E2 2363 [2300, 2299, 2362])) eok eintr emix rfl (w9 na i (by omega) f7 S7 hF7) hS7 ha7.tmps ha7.size (dfr_nil ha7) ?_
  rintro _ ⟨f8, rfl, hF8⟩
  intro γ8 act8 w8 hS8 hx8 ha8
  refine ⟨⟨i + 1, f8, S7, γ8, by omega, hS8, ha8, hF8, hI7⟩, ?_⟩
  rw [num7_of ha8.tmps hF8, num7_of ha3.tmps hF3]
  omega
theorem ssI0 {na : AV} : (outF (ssO2 na)).get 0 = some na ∧ (outF (ssO2 na)).get 5 = some (.ptr 2300 0) ∧ (outF (ssO2 na)).get 6 = some (.v (.bool true)) ∧ SsI (outS (ssO2 na)) 0 := by
  obtain ⟨_, h2, h3, h4⟩ := lookO_spec (ssO2_ok na)
  simp only [List.map_cons, List.map_nil, List.cons.injEq, and_true] at h3 h4
  refine ⟨h3.1, h3.2.1, h3.2.2, SsI.of ⟨by omega, h4.1, h4.2.1, h4.2.2⟩ ?_⟩
  exact ⟨rfl, rfl, rfl, rfl, rfl, rfl, rfl⟩
theorem soloStands_any (v0 : Value) (w : World) (hv0 : BoolIn w v0) : Calls Tryz.prog 5 #[v0] w fun x w' => x = .returned (.bool true) ∧ Below w.heap.size w w' := by
  obtain ⟨bs, na, hn, hna⟩ := hv0
  go_enter Tryz.func5, Tryz.ntmps5
  refine wp_seq_k fun K0 h0 => ?_
  have H0 := Lib.hid h0; clear h0
  go_wp2_with fail
  refine H0.out _ _ ?_
  clear H0 K0
  refine wp_seq_k fun K1 h1 => ?_
  have H1 := Lib.hid h1; clear h1
  go_wp2_with fail
  refine (solo_awake w).mono ?_
  rintro x w1 ⟨rfl, hb1⟩
  go_wp2_with fail
  refine H1.out _ _ ?_
  clear H1 K1
  obtain ⟨k1, _⟩ : ssO1 na = .out .normal ⟨outF (ssO1 na), []⟩ (outS (ssO1 na)) ∧ True := by
    obtain ⟨x, hx⟩ := Option.isSome_iff_exists.1 (ssO1_ok na)
    obtain ⟨n, vs, cs⟩ := x
    exact ⟨(lookO_spec hx).1, trivial⟩
  have k2 := (lookO_spec (ssO2_ok na)).1
  refine wp_seq_k fun K2 h2 => ?_
  refine codeX_norm (c := ssR3) (E := E1) e1_ok e1_intr e1_mix rfl (m := 2000) (n := 59) (f := frL [(0, na)]) (S := St0) (r := ssO1 na) rfl k1 (SR.whole w1) (frL_ok _ ?_) rfl rfl ?_
  · intro p hp
    simp only [List.mem_cons, List.not_mem_nil, or_false] at hp
    subst hp
    exact ⟨_, rfl, hna w1 hb1⟩
  intro act2 w2 γ2 hn2 hd2 hS2 hf2
  refine h2 _ _ ?_
  clear h2 K2
  refine wp_seq_k fun K3 h3 => ?_
  refine codeX_norm (c := ssR4) (E := E1) e1_ok e1_intr e1_mix rfl (m := 2000) (n := 59) (f := outF (ssO1 na)) (S := outS (ssO1 na)) (r := ssO2 na) rfl k2 hS2 hf2 hn2 hd2 ?_
  intro act3 w3 γ3 hn3 hd3 hS3 hf3
  refine h3 _ _ ?_
  clear h3 K3
  obtain ⟨g0, g5, g6, gS⟩ := ssI0 (na := na)
  refine ss_code na bs hn g0 g5 g6 gS hS3 hf3 hn3 hd3 ?_
  intro act' w' hs hd ht hb2
  refine ⟨hd, .bool true, ?_, rfl, hb1.trans (hb2.mono hb1.size)⟩
  have h4 : act'.tmps.getD 2 undef = .bool true := by simp [Array.getD_eq_getD_getElem?, ht]
  simp [results, Tryz.f5, h4, go_sem, ht]
end Go.Ax
