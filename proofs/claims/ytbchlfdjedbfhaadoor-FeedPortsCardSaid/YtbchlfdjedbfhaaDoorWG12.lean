/-
  Layer 20: lines, their loop.
-/
import Derived.Test.YtbchlfdjedbfhaaDoorWG11
import Derived.Test.YtbchlfdjedbfhaaDoorWG9
import Derived.RangeFuncNested
import Derived.RangeFuncCalls
import Derived.TacticsIn
import Derived.OrdersIn
set_option linter.unusedVariables false
set_option linter.unusedSimpArgs false
set_option maxHeartbeats 16000000
noncomputable section
namespace Go.Ax
open Go.RowKit Go.Proofs
set_option linter.unusedVariables false
set_option linter.unusedSimpArgs false
set_option maxRecDepth 100000
def rvs (ts : List Bool) (acc : List (List Int)) : List AV := acc.map fun r => rowVal ts (r, 0)
def combL (acc : List (List Int)) (x : List (List Int) × Int × Nat) : List (List Int) × Int × Nat := if x.2.2 = 0 then (acc ++ x.1, -1, 0) else ([], x.2)
theorem lines_nil (ts : List Bool) (k n : Nat) : linesF ts k n [] = ([], -1, 0) := rfl
theorem lines_blank (ts : List Bool) (k n : Nat) (r : List (List UInt8)) : linesF ts k n ([] :: r) = linesF ts (k + 1) n r := by rw [linesF, if_pos rfl]
theorem lines_full {ts : List Bool} {k : Nat} {l : List UInt8} {r : List (List UInt8)} (h : l ≠ []) : linesF ts k 200 (l :: r) = ([], (k : Int), 14) := by rw [linesF, if_neg h, if_pos rfl]
theorem lines_bad {ts : List Bool} {k n : Nat} {l : List UInt8} {r : List (List UInt8)} (h : l ≠ []) (hn : n ≠ 200) (he : (rowF ts l).2 ≠ 0) : linesF ts k n (l :: r) = ([], (k : Int), (rowF ts l).2) := by rw [linesF, if_neg h, if_neg hn, if_neg he]
theorem lines_shape : ∀ (ts : List Bool) (r : List (List UInt8)) (k n : Nat), ((linesF ts k n r).2.2 = 0 → (linesF ts k n r).2.1 = -1) ∧ ((linesF ts k n r).2.2 ≠ 0 → (linesF ts k n r).1 = [])
  | ts, [], k, n => ⟨fun _ => rfl, fun _ => rfl⟩
  | ts, l :: r, k, n => by
    rw [linesF]
    split
    · exact lines_shape ts r (k + 1) n
    · split
      · exact ⟨fun h => absurd (show (14 : Nat) = 0 from h) (by decide), fun _ => rfl⟩
      · split
        · split
          · exact ⟨fun _ => rfl, fun h => absurd rfl h⟩
          · exact lines_shape ts r (k + 1) (n + 1)
        · rename_i h
          exact ⟨fun h2 => absurd h2 h, fun _ => rfl⟩
theorem combL_nil (ts : List Bool) (r : List (List UInt8)) (k n : Nat) : combL [] (linesF ts k n r) = linesF ts k n r := by
  obtain ⟨h1, h2⟩ := lines_shape ts r k n
  unfold combL
  by_cases h : (linesF ts k n r).2.2 = 0
  · rw [if_pos h]; exact Prod.ext rfl (Prod.ext (h1 h).symm h.symm)
  · rw [if_neg h]; exact Prod.ext (h2 h).symm rfl
theorem combL_row {ts : List Bool} {k n : Nat} {l : List UInt8} {r : List (List UInt8)} (acc : List (List Int)) (h : l ≠ []) (hn : n ≠ 200) (he : (rowF ts l).2 = 0) : combL acc (linesF ts k n (l :: r)) = combL (acc ++ [(rowF ts l).1]) (linesF ts (k + 1) (n + 1) r) := by
  rw [linesF, if_neg h, if_neg hn, if_pos he]
  unfold combL
  by_cases h2 : (linesF ts (k + 1) (n + 1) r).2.2 = 0
  · rw [if_pos h2, if_pos rfl, if_pos h2, List.append_assoc]; rfl
  · rw [if_neg h2, if_neg h2, if_neg h2]
theorem rv_ok (ts : List Bool) (x : List Int × Nat) : (rowVal ts x).noTup = true ∧ (rowVal ts x).cells = [rowVal ts x] ∧ freeV (rowVal ts x) = true ∧ clean (rowVal ts x) = rowVal ts x := by
  unfold rowVal
  split
  · exact ⟨rfl, rfl, rfl, rfl⟩
  · refine ⟨rfl, rfl, ?_, ?_⟩
    · exact (ints_free _).1
    · show AV.sl 0 0 1 (cleanL _) = _; rw [(ints_free _).2]
theorem yrR_1 (x : AV) (h1 : x.noTup = true) (h2 : x.cells = [x]) : oBuildSlice Tryd.prog 27 1 [(0, x)] = some (.sl 1 0 1 [x]) := by
  obtain ⟨z, hz⟩ : ∃ z, zeroA Tryd.prog 42 = some z := Option.isSome_iff_exists.1 (by kernel_rfl)
  simp [oBuildSlice, yeR, yzeR, hz, h1, h2]
def paLB : Code := match Tryd.f12.body with
  | some (.seq _ (.seq _ (.seq (.seq _ (.block _ (.loop c))) _))) => c
  | _ => .skip
theorem paLB_is : (match paLB with | .skip => false | _ => true) = true := by kernel_rfl
theorem fnz_23 : ∃ fn, EZ.F 23 = some fn := Option.isSome_iff_exists.1 (by kernel_rfl)
def PaEnd (ts : List Bool) (ls : List (List UInt8)) (r : O) : Prop :=
  (∃ t' S' x, r = .out .ret ⟨t', []⟩ S' ∧ t'.get 4 = some .nils ∧ t'.get 5 = some (.v (.int .i64 x.1)) ∧ t'.get 6 = some (.v (.int .i64 ((x.2 : Nat) : Int))) ∧ x.2 ≠ 0 ∧ linesF ts 0 0 ls = ([], x)) ∨
  (∃ t' S' tk acc, r = .out (.exit 0) ⟨t', []⟩ S' ∧ t'.get 7 = some (.sl tk 0 1 (rvs ts acc)) ∧ linesF ts 0 0 ls = (acc, -1, 0))
theorem pa_lp {ts : List Bool} {v : AV} (hv : isDcls v ts) (hf : freeV v = true) (hc : clean v = v) (hts : ts.length ≤ 1000) {a0 a1 a3 a4 a5 : AV} {wt wo : Nat} {ls : List (List UInt8)} (hws : ls.length ≤ 200000) (hwl : ∀ w ∈ ls, w.length ≤ 100000) {bx : Nat} : ∀ (n j tk : Nat) (acc : List (List Int)) (t : T AV) (S : St), j + n = ls.length → acc.length ≤ 200 → linesF ts 0 0 ls = combL acc (linesF ts j acc.length (ls.drop j)) → RowO 1 S tk (rvs ts acc) → 2 ≤ S.next → bx < S.next → tk ≠ bx → S.mem.get bx = some (.box [a0, a1, v, a3, a4, a5]) → t.get 2 = some (.ptr bx 0) → t.get 7 = some (.sl tk 0 1 (rvs ts acc)) → t.get 14 = some (.sl wt wo 1 (ls.map strS)) → t.get 15 = some (.v (.int .i64 ((ls.length : Nat) : Int))) → t.get 16 = some (.v (.int .i64 ((j : Nat) : Int))) →
    WX EZ 44 (.loop paLB) ⟨t, []⟩ S (PaEnd ts ls)
  | 0, j, tk, acc, t, S, hj, ha, hinv, RO, hn, hb, htb, hm, T2, T7, T14, T15, T16 => by
    refine WX_loop (W_sound ?_)
    have hlt : decide ((j : Int) < (ls.length : Int)) = false := by rw [decide_eq_false_iff_not]; omega
    simp (maxSteps := 2000000) (disch := omega) only [thenW_exit, W_skip, W_region, W_seq, W_cond, W_block, W_exit, seqQ_normal2, seqQ_exit2, WL_nil2, WL_cons, execL_val2, putL_some2, condW_f2, wantedA, exec1, evalO, T.get_set, ofOpt, neNil3, fb_lss, Nat.reduceLT, Nat.reduceEqDiff, if_true, if_false, true_and, Bool.false_eq_true, ez_P, paLB, Tryd.f12, T15, T16, hlt]
    rw [List.drop_of_length_le (show ls.length ≤ j by omega), lines_nil] at hinv
    refine .inr ⟨_, _, tk, acc, rfl, ?_, ?_⟩
    · simp only [T.get_set, Nat.reduceEqDiff, if_false, T7]
    · rw [hinv]; unfold combL; rw [if_pos rfl, List.append_nil]
  | n + 1, j, tk, acc, t, S, hj, ha, hinv, RO, hn, hb, htb, hm, T2, T7, T14, T15, T16 => by
    refine WX_loop (W_sound ?_)
    have hjw : j < ls.length := by omega
    have hlt : decide ((j : Int) < (ls.length : Int)) = true := by rw [decide_eq_true_eq]; omega
    have hw := wrapS j (by omega)
    obtain ⟨fn1, hf1⟩ := fnz_23
    have hx := yxS wt wo (ls.map strS) j (by rw [List.length_map]; exact hjw)
    rw [List.getElem_map] at hx
    have hdw : ls.drop j = ls[j] :: ls.drop (j + 1) := List.drop_eq_getElem_cons hjw
    have hwj := hwl _ (List.getElem_mem hjw)
    have hcS : ∀ w : List UInt8, (strS w).cells = [strS w] := fun _ => rfl
    rw [hcS] at hx
    simp only [strS] at hx
    rw [hdw] at hinv
    generalize ls[j] = wj at *
    have hra : (rvs ts acc).length = acc.length := by unfold rvs; rw [List.length_map]
    have T7' := T7
    by_cases hbl : wj = []
    · have e1 : decide (wj = []) = true := by rw [decide_eq_true_eq]; exact hbl
      rw [hbl, lines_blank] at hinv
      simp (maxSteps := 2000000) (disch := omega) only [thenW_normal, thenW_exit, W_skip, W_region, W_seq, W_cond, W_block, W_exit, seqQ_normal2, seqQ_exit2, blockW_exit2, WL_nil2, WL_cons, execL_val2, putL_some2, condW_t2, wantedA, exec1, evalO, T.get_set, ofOpt, ofConst, neNil3, fb_lss, fb_add, fb_eqS, neNil9, Nat.reduceLT, Nat.reduceEqDiff, if_true, if_false, true_and, Bool.false_eq_true, ez_P, paLB, Tryd.f12, neNil9, yle9, fb_eqS, T14, T15, T16, hlt, hx, e1, hw]
      refine WX.mono (pa_lp (wt := wt) (wo := wo) hv hf hc hts hws hwl n (j + 1) tk acc _ _ (by omega) ha hinv RO hn hb htb hm ?_ ?_ ?_ ?_ ?_) (fun r h => h)
      · simp only [T.get_set, Nat.reduceEqDiff, if_false, T2]
      · simp only [T.get_set, Nat.reduceEqDiff, if_false, T7]
      · simp only [T.get_set, Nat.reduceEqDiff, if_false, T14]
      · simp only [T.get_set, Nat.reduceEqDiff, if_false, T15]
      · simp only [T.get_set, Nat.reduceEqDiff, if_true, if_false]
    · have e1 : decide (wj = []) = false := by rw [decide_eq_false_iff_not]; exact hbl
      by_cases h2 : acc.length = 200
      · have e2 : ((((rvs ts acc).length : Nat) : Int) == 200) = true := by rw [beq_iff_eq]; omega
        rw [h2, lines_full hbl] at hinv
        simp (maxSteps := 2000000) (disch := omega) only [thenW_normal, thenW_exit, thenW_ret, W_skip, W_region, W_seq, W_cond, W_block, W_exit, W_ret, seqQ_normal2, seqQ_exit2, seqQ_ret2, blockW_ret2, blockW_exit2, WL_nil2, WL_cons, execL_val2, putL_some2, condW_t2, condW_f2, wantedA, exec1, evalO, T.get_set, callA, ofOpt, ofConst, neNil3, fb_lss, fb_add, fb_eqlI, fb_eqS, neNil9, Nat.reduceLT, Nat.reduceEqDiff, if_true, if_false, true_and, Bool.false_eq_true, ez_P, paLB, Tryd.f12, neNil9, ynR, yle9, fb_eqS, T7, T14, T15, T16, hlt, hx, e1, e2]
        refine .inl ⟨_, _, ((j : Int), 14), rfl, ?_, ?_, ?_, show (14 : Nat) ≠ 0 from by decide, by rw [hinv]; rfl⟩
        · simp only [T.get_set, Nat.reduceEqDiff, if_true, if_false]
        · simp only [T.get_set, Nat.reduceEqDiff, if_true, if_false]
        · simp only [T.get_set, Nat.reduceEqDiff, if_true, if_false] <;> rfl
      · have e2 : ((((rvs ts acc).length : Nat) : Int) == 200) = false := by rw [beq_eq_false_iff_ne]; omega
        simp (maxSteps := 2000000) (disch := omega) only [thenW_normal, thenW_exit, thenW_ret, W_skip, W_region, W_seq, W_cond, W_block, W_exit, W_ret, seqQ_normal2, seqQ_exit2, seqQ_ret2, blockW_ret2, blockW_exit2, WL_nil2, WL_cons, execL_val2, execL_enter2, putL_some2, condW_t2, condW_f2, wantedA, exec1, evalO, T.get_set, callA, mapO, ofOpt, ofConst, neNil3, fb_lss, fb_add, fb_eqlI, fb_eqS, neNil9, Nat.reduceLT, Nat.reduceEqDiff, if_true, if_false, true_and, List.getElem?_cons_succ, List.getElem?_cons_zero, List.nil_append, List.append_nil, Bool.false_eq_true, cl1_box, Nat.zero_add, ez_P, paLB, Tryd.f12, neNil9, ynR, yle9, yfN_2, yl25, fb_eqS, T2, T7, T14, T15, T16, hlt, hx, e1, e2, hm, hf1]
        refine use_row hv hf hc hts hwj ?_
        obtain ⟨v1, v2, v3, v4⟩ := rv_ok ts (rowF ts wj)
        by_cases he : (rowF ts wj).2 = 0
        · have he0 : ((((rowF ts wj).2 : Nat) : Int) != 0) = false := by rw [he]; rfl
          rw [combL_row acc hbl h2 he] at hinv
          have hrv : rowVal ts (rowF ts wj) = rowVal ts ((rowF ts wj).1, 0) := by unfold rowVal; rw [he]
          have hbs := yrR_1 _ v1 v2
          obtain ⟨bytes, hrt⟩ := ytR
          obtain ⟨S2, happ, ro2, n2, k2⟩ := push_row (E := EZ) hrt rfl rfl RO hn (rowVal ts (rowF ts wj)) (by rw [v2]; rfl) (by rw [hra]; omega)
          have hmm : rvs ts acc ++ [rowVal ts (rowF ts wj)] = rvs ts (acc ++ [(rowF ts wj).1]) := by unfold rvs; rw [List.map_append, hrv]; rfl
          rw [hmm] at happ ro2
          generalize rowVal ts (rowF ts wj) = rv at *
          simp (maxSteps := 2000000) (disch := omega) only [thenW_normal, thenW_ret, W_skip, W_region, W_seq, W_cond, W_ret, seqQ_normal2, seqQ_ret2, blockW_normal2, blockW_ret2, WL_nil2, WL_cons, execL_val2, putL_some2, retL_ret2, condW_f2, wantedA, exec1, evalO, T.get_set, callA, ofOpt, ofOptS, ofConst, partsA, neNil3, fb_add, fb_neqI, Nat.reduceLT, Nat.reduceEqDiff, if_true, if_false, true_and, List.getElem?_cons_succ, List.getElem?_cons_zero, Bool.false_eq_true, oExtract, ez_P, i64A, oExtract, T7, T16, he0, hbs, happ, hw]
          refine WX.mono (pa_lp (wt := wt) (wo := wo) hv hf hc hts hws hwl n (j + 1) S.next (acc ++ [(rowF ts wj).1]) _ S2 (by omega) (by rw [List.length_append]; show acc.length + 1 ≤ _; omega) (by rw [List.length_append]; exact hinv) ro2 (by omega) (by omega) (by omega) ((k2 bx (fun h => htb h.symm) hb).trans hm) ?_ ?_ ?_ ?_ ?_) (fun r h => h)
          · simp only [T.get_set, Nat.reduceEqDiff, if_false, T2]
          · simp only [T.get_set, Nat.reduceEqDiff, if_true, if_false]
          · simp only [T.get_set, Nat.reduceEqDiff, if_false, T14]
          · simp only [T.get_set, Nat.reduceEqDiff, if_false, T15]
          · simp only [T.get_set, Nat.reduceEqDiff, if_true, if_false]
        · have he0 : ((((rowF ts wj).2 : Nat) : Int) != 0) = true := by rw [bne_iff_ne]; omega
          rw [lines_bad hbl h2 he] at hinv
          generalize rowVal ts (rowF ts wj) = rv at *
          simp (maxSteps := 2000000) (disch := omega) only [thenW_ret, W_skip, W_region, W_seq, W_cond, W_ret, seqQ_normal2, seqQ_ret2, blockW_ret2, WL_nil2, WL_cons, execL_val2, putL_some2, retL_ret2, condW_t2, wantedA, exec1, evalO, T.get_set, ofOpt, ofConst, neNil3, fb_neqI, Nat.reduceLT, Nat.reduceEqDiff, if_true, if_false, true_and, List.getElem?_cons_succ, List.getElem?_cons_zero, Bool.false_eq_true, oExtract, ez_P, i64A, oExtract, he0]
          refine .inl ⟨_, _, ((j : Int), (rowF ts wj).2), rfl, ?_, ?_, ?_, he, by rw [hinv]; unfold combL; rw [if_neg he]⟩ <;> simp only [T.get_set, Nat.reduceEqDiff, if_true, if_false]
end Go.Ax
noncomputable section
namespace Go.Ax
open Go.RowKit Go.Proofs
set_option linter.unusedVariables false
set_option linter.unusedSimpArgs false
set_option maxRecDepth 100000
theorem rvs_free (ts : List Bool) : ∀ acc : List (List Int), freeL (rvs ts acc) = true ∧ cleanL (rvs ts acc) = rvs ts acc
  | [] => ⟨rfl, rfl⟩
  | r :: acc => by
    obtain ⟨h1, h2⟩ := rvs_free ts acc
    obtain ⟨_, _, h3, h4⟩ := rv_ok ts (r, 0)
    refine ⟨?_, ?_⟩
    · show (freeV (rowVal ts (r, 0)) && freeL (rvs ts acc)) = true; rw [h3, h1]; rfl
    · show clean (rowVal ts (r, 0)) :: cleanL (rvs ts acc) = _; rw [h4, h2]; rfl
theorem parse_fin {a0 a1 v a3 a4 a5 : AV} {ts : List Bool} {l : List UInt8} (hv : isDcls v ts) {a : AV} {i : Int} {e : Nat} (hf : freeV a = true) (hx : (linesF ts 0 0 (splitB 10 l)).2 = (i, e)) (ha : clean a = linesVal ts (linesF ts 0 0 (splitB 10 l))) (S' : St) : ∃ a' S'', R.ret (.tup [a, .v (.int .i64 i), .v (.int .i64 ((e : Nat) : Int))]) S' = R.ret a' S'' ∧ freeV a' = true ∧ SpecZ 12 [.agg [a0, a1, v, a3, a4, a5], strS l] (clean a') := by
  refine ⟨_, _, rfl, ?_, ?_⟩
  · show (freeV a && true) = true; rw [hf]; rfl
  · intro b0 b1 v' b3 b4 b5 ts' l' hq hd _ _
    injection hq with h3 h4
    injection h4 with h4 _
    have := str_inj h4
    subst this
    simp only [AV.agg.injEq, List.cons.injEq, and_true] at h3
    obtain ⟨_, _, h3, _⟩ := h3
    subst h3
    have := isDcls_inj hv hd
    subst this
    show AV.tup [clean a, _, _] = _
    rw [ha, hx]; rfl
theorem parse_k (a0 a1 v a3 a4 a5 : AV) (ts : List Bool) (l : List UInt8) (hv : isDcls v ts) (hf : freeV v = true) (hc : clean v = v) (hts : ts.length ≤ 1000) (hl : l.length ≤ 100000) : KnZ 12 [.agg [a0, a1, v, a3, a4, a5], strS l] := by
  refine bodyZ Tryd.f12 (by kernel_rfl) (by kernel_rfl) (show (_ : Nat) ≤ _ from by show (_ : Nat) ≤ _; simp [Tryd.f12]) ?_
  obtain ⟨fn2, hf2⟩ := fnz_22
  obtain ⟨hw1, hw2⟩ := split_len 10 l
  have lp := fun t S => pa_lp (a0 := a0) (a1 := a1) (a3 := a3) (a4 := a4) (a5 := a5) (wt := 0) (wo := 0) (ls := splitB 10 l) (bx := St0.next) hv hf hc hts (by omega) (fun w hw => by have := hw2 w hw; omega) (splitB 10 l).length 0 1 [] t S (by omega) (Nat.zero_le _) (by rw [List.drop_zero]; exact (combL_nil _ _ _ _).symm) (.inl rfl)
  unfold paLB at lp
  simp only [Tryd.f12] at lp
  simp (maxSteps := 2000000) (disch := omega) only [W_region, W_seq, seqQ_normal2, WL_nil2, WL_cons, execL_val2, execL_enter2, putL_some2, wantedA, exec1, evalO, initT, T.get_set, T.get_leaf, callA, mapO, ofOpt, ofConst, partsA, Nat.reduceLT, Nat.reduceEqDiff, if_true, if_false, true_and, Option.getD_some, List.nil_append, List.append_nil, st0_next, Nat.zero_add, noTup_agg, cells_agg, ez_P, Tryd.f12, strS, yrR_0, initT, hf2]
  refine use_split (c := 10) hl ?_
  generalize hws : splitB 10 l = ws at *
  simp (maxSteps := 2000000) (disch := omega) only [W_block, W_loop, seqQ_normal2, WL_nil2, WL_cons, execL_val2, putL_some2, retL_ret2, wantedA, exec1, evalO, T.get_set, T.get_leaf, callA, ofOpt, ofConst, Nat.reduceLT, Nat.reduceEqDiff, if_true, if_false, true_and, ez_P, ynS, List.length_map]
  refine WX.mono (lp _ _ ?_ ?_ ?_ ?_ ?_ ?_ ?_ ?_ ?_) ?_
  · simp only [nb_next, st0_next]; omega
  · simp only [nb_next, st0_next]; omega
  · simp only [st0_next]; omega
  · simp only [nb_get, st0_next, if_true] <;> rfl
  · simp only [T.get_set, T.get_leaf, Nat.reduceEqDiff, if_true, if_false] <;> rfl
  · simp only [T.get_set, T.get_leaf, Nat.reduceEqDiff, if_true, if_false] <;> rfl
  · simp only [T.get_set, T.get_leaf, Nat.reduceEqDiff, if_true, if_false] <;> rfl
  · simp only [T.get_set, T.get_leaf, Nat.reduceEqDiff, if_true, if_false] <;> rfl
  · simp only [T.get_set, T.get_leaf, Nat.reduceEqDiff, if_true, if_false] <;> rfl
  rintro r' (⟨t', S', ⟨i, e⟩, rfl, r4, r5, r6, he, hR⟩ | ⟨t', S', tk, acc, rfl, r7, hR⟩)
  · simp (maxSteps := 2000000) (disch := omega) only [seqQ_ret2, blockW_ret2, finW_ret, giveW, resultsA, tupA, r4, r5, r6]
    refine parse_fin hv rfl (i := i) (e := e) ?_ ?_ _
    · rw [hws, hR]
    · rw [hws, hR]; unfold linesVal; rw [if_pos he]; rfl
  · simp (maxSteps := 2000000) (disch := omega) only [W_region, W_seq, W_ret, seqQ_normal2, seqQ_exit2, blockW_exit2, WL_nil2, WL_cons, execL_val2, putL_some2, wantedA, exec1, evalO, T.get_set, ofOpt, ofConst, finW_ret, giveW, resultsA, tupA, Nat.reduceLT, Nat.reduceEqDiff, if_true, if_false, true_and, r7]
    refine parse_fin hv (a := .sl tk 0 1 (rvs ts acc)) (i := -1) (e := 0) (rvs_free ts acc).1 ?_ ?_ _
    · rw [hws, hR]
    · rw [hws, hR]; unfold linesVal; rw [if_neg (fun h => h rfl)]
      show AV.sl 0 0 1 (cleanL _) = _
      rw [(rvs_free ts acc).2]; rfl
theorem use_parse {S : St} {Q : R → Prop} {a0 a1 v a3 a4 a5 : AV} {ts : List Bool} {l : List UInt8} (hv : isDcls v ts) (hf : freeV v = true) (hc : clean v = v) (hfa : freeV (.agg [a0, a1, v, a3, a4, a5]) = true) (hca : clean (.agg [a0, a1, v, a3, a4, a5]) = .agg [a0, a1, v, a3, a4, a5]) (hts : ts.length ≤ 1000) (hl : l.length ≤ 100000) (h : Q (.ret (.tup [linesVal ts (linesF ts 0 0 (splitB 10 l)), i64A (linesF ts 0 0 (splitB 10 l)).2.1, i64A (linesF ts 0 0 (splitB 10 l)).2.2]) S)) : WC EZ 12 [.agg [a0, a1, v, a3, a4, a5], strS l] S Q :=
  callZ (parse_k a0 a1 v a3 a4 a5 ts l hv hf hc hts hl) (by kernel_rfl) (by show (freeV _ && true) = true; rw [hfa]; rfl) (by show [clean _, _] = _; rw [hca]; rfl) fun a _ _ hs => by
    have := hs a0 a1 v a3 a4 a5 ts l rfl hv hts hl
    subst this
    exact h
end Go.Ax
noncomputable section
namespace Go.Ax
open Go.RowKit Go.Proofs
set_option linter.unusedVariables false
set_option linter.unusedSimpArgs false
set_option maxRecDepth 100000
theorem bools_len {w : AV} {bs : List Bool} (h : isBools w bs) (S : St) : oLen Tryd.prog S 22 w = some bs.length := by
  rcases h with ⟨rfl, rfl⟩ | ⟨tok, off, rfl⟩
  · exact ynnB S
  · rw [ynB, List.length_map]
theorem bools_idx {w : AV} {bs : List Bool} (h : isBools w bs) (j : Nat) (hj : j < bs.length) : oIndexAddr Tryd.prog 22 w (.v (.int .i64 (j : Int))) = some (.ep [boolA bs[j]]) := by
  rcases h with ⟨rfl, rfl⟩ | ⟨tok, off, rfl⟩
  · exact absurd hj (Nat.not_lt_zero _)
  · rw [yxB tok off _ j (by rw [List.length_map]; exact hj), List.getElem_map]; rfl
theorem bool_map_inj : ∀ {x y : List Bool}, x.map boolA = y.map boolA → x = y
  | [], [], _ => rfl
  | [], _ :: _, h => by cases h
  | _ :: _, [], h => by cases h
  | a :: x, c :: y, h => by
    simp only [List.map_cons, List.cons.injEq] at h
    have h1 : a = c := by have := h.1; unfold boolA at this; simpa using this
    rw [h1, bool_map_inj h.2]
theorem isBools_inj {w : AV} {vs vs' : List Bool} (h : isBools w vs) (h' : isBools w vs') : vs' = vs := by
  rcases h with ⟨rfl, rfl⟩ | ⟨tok, off, rfl⟩
  · rcases h' with ⟨_, rfl⟩ | ⟨_, _, h⟩
    · rfl
    · cases h
  · rcases h' with ⟨h, _⟩ | ⟨_, _, h⟩
    · cases h
    · injection h with _ _ _ h
      exact (bool_map_inj h).symm
theorem decls_free : ∀ bs : List Bool, freeL (bs.map declT) = true ∧ cleanL (bs.map declT) = bs.map declT
  | [] => ⟨rfl, rfl⟩
  | b :: r => by
    obtain ⟨h1, h2⟩ := decls_free r
    exact ⟨by rw [List.map_cons, freeL, h1]; rfl, by rw [List.map_cons, cleanL, h2]; rfl⟩
theorem decls_is : ∀ bs : List Bool, dcls bs (bs.map declT)
  | [] => trivial
  | b :: r => ⟨⟨_, _, _, _, _, rfl⟩, decls_is r⟩
theorem isDcls_T (bs : List Bool) : isDcls (.sl 0 0 6 (bs.map declT)) bs := .inr ⟨_, _, _, rfl, decls_is bs⟩
theorem ybE_02 (l : List UInt8) (b : Bool) : oBuild Tryd.prog 51 [(0, .v (.string ⟨⟨l⟩⟩)), (2, .v (.bool b))] = some (.agg [.v (.string ⟨⟨l⟩⟩), .v (.int .i64 0), .v (.bool b), .v (.bool false), strS [], .v (.bool false)]) := by kernel_rfl
theorem yrD_1 (a0 a1 a2 a3 a4 a5 : AV) : oBuildSlice Tryd.prog 25 1 [(0, .agg [a0, a1, a2, a3, a4, a5])] = some (.sl 1 0 6 [.agg [a0, a1, a2, a3, a4, a5]]) := by kernel_rfl
def dcLB : Code := match Tryd.f9.body with
  | some (.seq _ (.seq _ (.seq (.seq _ (.block _ (.loop c))) _))) => c
  | _ => .skip
theorem dcLB_is : (match dcLB with | .skip => false | _ => true) = true := by kernel_rfl
theorem take_T (bs : List Bool) (j : Nat) (h : j < bs.length) : (bs.take j).map declT ++ [declT bs[j]] = (bs.take (j + 1)).map declT := by
  rw [List.take_add_one, List.getElem?_eq_getElem h, List.map_append]; rfl
theorem dc_lp {w : AV} {bs : List Bool} (hw : isBools w bs) : ∀ (n j tk : Nat) (t : T AV) (S : St), j + n = 5 → j ≤ bs.length → RowO 6 S tk ((bs.take j).map declT) → 2 ≤ S.next → t.get 0 = some w → t.get 3 = some (.sl tk 0 6 ((bs.take j).map declT)) → t.get 4 = some (.v (.int .i64 ((j : Nat) : Int))) →
    WX EZ 25 (.loop dcLB) ⟨t, []⟩ S (fun r => ∃ t' S' tk, r = .out (.exit 0) ⟨t', []⟩ S' ∧ t'.get 3 = some (.sl tk 0 6 ((bs.take 5).map declT)))
  | n, j, tk, t, S, hj, hjb, RO, hn, T0, T3, T4 => by
    refine WX_loop (W_sound ?_)
    have hvl := fun S => bools_len hw S
    by_cases hjl : j < bs.length
    · have h1 : decide ((j : Int) < (bs.length : Int)) = true := by rw [decide_eq_true_eq]; omega
      cases n with
      | zero =>
        have h5 : j = 5 := by omega
        have h2 : decide ((j : Int) < 5) = false := by rw [decide_eq_false_iff_not]; omega
        simp (maxSteps := 2000000) (disch := omega) only [thenW_exit, W_skip, W_region, W_seq, W_cond, W_block, W_exit, seqQ_normal2, seqQ_exit2, WL_nil2, WL_cons, execL_val2, putL_some2, condW_f2, wantedA, exec1, evalO, T.get_set, callA, ofOpt, ofConst, neNil3, fb_lss, Nat.reduceLT, Nat.reduceEqDiff, if_true, if_false, true_and, List.getElem?_toArray, List.getElem?_cons_succ, List.getElem?_cons_zero, Option.bind_some, beq_self_eq_true, Bool.false_eq_true, ez_P, dcLB, Tryd.f9, T0, T3, T4, hvl, h1, h2]
        subst h5
        exact ⟨_, _, tk, rfl, by simp only [T.get_set, Nat.reduceEqDiff, if_false, T3]⟩
      | succ n =>
        have h2 : decide ((j : Int) < 5) = true := by rw [decide_eq_true_eq]; omega
        have hx := bools_idx hw j hjl
        have hws := wrapS j (by omega)
        have htk := take_T bs j hjl
        generalize bs[j] = bj at *
        obtain ⟨bytes, hrt⟩ := ytD
        obtain ⟨S2, happ, ro2, n2, k2⟩ := push_row (E := EZ) hrt rfl rfl RO hn (declT bj) rfl (by rw [List.length_map, List.length_take]; omega)
        rw [htk] at happ ro2
        simp only [declT, strS] at happ
        simp only [boolA] at hx
        simp (maxSteps := 2000000) (disch := omega) only [thenW_normal, thenW_exit, W_skip, W_region, W_seq, W_cond, W_block, W_exit, seqQ_normal2, seqQ_exit2, blockW_normal2, WL_nil2, WL_cons, execL_val2, putL_some2, condW_t2, wantedA, exec1, evalO, T.get_set, callA, ofOpt, ofOptS, ofConst, partsA, neNil3, fb_lss, fb_add, Nat.reduceLT, Nat.reduceEqDiff, if_true, if_false, true_and, List.getElem?_toArray, List.getElem?_cons_succ, List.getElem?_cons_zero, Option.bind_some, beq_self_eq_true, Bool.false_eq_true, ez_P, dcLB, Tryd.f9, strS, yle4, ybE_02, yrD_1, T0, T3, T4, hvl, h1, h2, hx, happ, hws]
        refine WX.mono (dc_lp hw n (j + 1) S.next _ S2 (by omega) (by omega) ro2 (by omega) ?_ ?_ ?_) (fun r h => h)
        · simp only [T.get_set, Nat.reduceEqDiff, if_false, T0]
        · simp only [T.get_set, Nat.reduceEqDiff, if_true, if_false] <;> rfl
        · simp only [T.get_set, Nat.reduceEqDiff, if_true, if_false]
    · have h1 : decide ((j : Int) < (bs.length : Int)) = false := by rw [decide_eq_false_iff_not]; omega
      have hjj : j = bs.length := by omega
      simp (maxSteps := 2000000) (disch := omega) only [thenW_exit, W_skip, W_region, W_seq, W_cond, W_block, W_exit, seqQ_normal2, seqQ_exit2, WL_nil2, WL_cons, execL_no, execL_val2, putL_some2, condW_f2, wantedA, exec1, evalO, T.get_set, callA, ofOpt, ofConst, neNil3, fb_lss, Nat.reduceLT, Nat.reduceEqDiff, if_true, if_false, true_and, List.getElem?_toArray, List.getElem?_cons_succ, List.getElem?_cons_zero, Option.bind_some, Bool.false_eq_true, Bool.not_true, Bool.false_beq, ez_P, ez_G, dcLB, Tryd.f9, T0, T3, T4, hvl, h1]
      refine ⟨_, _, tk, rfl, ?_⟩
      simp only [T.get_set, Nat.reduceEqDiff, if_false, T3]
      rw [List.take_of_length_le (show bs.length ≤ j by omega), List.take_of_length_le (show bs.length ≤ 5 by omega)]
theorem decls_k (w : AV) (bs : List Bool) (hw : isBools w bs) : KnZ 9 [w] := by
  refine bodyZ Tryd.f9 (by kernel_rfl) (by kernel_rfl) (show (_ : Nat) ≤ _ from by show (_ : Nat) ≤ _; simp [Tryd.f9]) ?_
  have lp := fun t S => dc_lp hw 5 0 1 t S (by omega) (Nat.zero_le _) (.inl rfl)
  unfold dcLB at lp
  simp only [Tryd.f9, List.take_zero, List.map_nil] at lp
  simp (maxSteps := 2000000) (disch := omega) only [W_region, W_seq, W_block, W_loop, seqQ_normal2, WL_nil2, WL_cons, execL_val2, putL_some2, wantedA, exec1, evalO, initT, T.get_set, T.get_leaf, ofOpt, ofConst, partsA, Nat.reduceLT, Nat.reduceEqDiff, if_true, if_false, true_and, Option.getD_some, ez_P, Tryd.f9, yrD_0, initT]
  refine WX.mono (lp _ _ ?_ ?_ ?_ ?_) ?_
  · simp only [st0_next]; omega
  · simp only [T.get_set, T.get_leaf, Nat.reduceEqDiff, if_true, if_false] <;> rfl
  · simp only [T.get_set, T.get_leaf, Nat.reduceEqDiff, if_true, if_false] <;> rfl
  · simp only [T.get_set, T.get_leaf, Nat.reduceEqDiff, if_true, if_false] <;> rfl
  rintro r' ⟨t', S', tk, rfl, r3⟩
  simp (maxSteps := 2000000) (disch := omega) only [W_region, W_seq, W_ret, seqQ_normal2, seqQ_exit2, blockW_exit2, WL_nil2, WL_cons, execL_val2, putL_some2, wantedA, exec1, evalO, T.get_set, ofOpt, finW_ret, giveW, resultsA, tupA, Nat.reduceLT, Nat.reduceEqDiff, if_true, if_false, true_and, r3]
  refine ⟨_, _, rfl, (decls_free _).1, ?_⟩
  intro w' bs' hq hb
  injection hq with h3 _
  subst h3
  have := isBools_inj hw hb
  subst this
  show AV.sl 0 0 6 (cleanL _) = _
  rw [(decls_free _).2]
theorem use_decls {S : St} {Q : R → Prop} {w : AV} {bs : List Bool} (hw : isBools w bs) (h : Q (.ret (.sl 0 0 6 ((bs.take 5).map declT)) S)) (hfw : freeV w = true) (hcw : clean w = w) : WC EZ 9 [w] S Q :=
  callZ (decls_k w bs hw) (by kernel_rfl) (by show (freeV w && true) = true; rw [hfw]; rfl) (by show [clean w] = _; rw [hcw]) fun a _ _ hs => by
    have := hs w bs rfl hw
    subst this
    exact h
end Go.Ax
noncomputable section
namespace Go.Ax
open Go.RowKit Go.Proofs
set_option linter.unusedVariables false
set_option linter.unusedSimpArgs false
set_option maxRecDepth 100000
theorem ybT_01 (x y : Bool) : oBuild Tryd.prog 54 [(0, .v (.bool x)), (1, .v (.bool y))] = some (.agg [.v (.bool x), .v (.bool y)]) := by kernel_rfl
theorem ybO_a (l m : List UInt8) (i : Int) (x y z : Bool) : oBuild Tryd.prog 56 [(0, .v (.string ⟨⟨l⟩⟩)), (1, .v (.int .i64 i)), (2, .agg [.v (.bool x), .v (.bool y)]), (3, .v (.string ⟨⟨m⟩⟩)), (4, .v (.bool z))] = some (.agg [.v (.string ⟨⟨l⟩⟩), .v (.int .i64 i), .v (.bool x), .v (.bool y), .v (.string ⟨⟨m⟩⟩), .v (.bool z)]) := by kernel_rfl
theorem yrO_1 (a0 a1 a2 a3 a4 a5 : AV) : oBuildSlice Tryd.prog 31 1 [(0, .agg [a0, a1, a2, a3, a4, a5])] = some (.sl 1 0 6 [.agg [a0, a1, a2, a3, a4, a5]]) := by kernel_rfl
def owLB : Code := match Tryd.f11.body with
  | some (.seq _ (.seq _ (.seq (.seq _ (.block _ (.loop c))) _))) => c
  | _ => .skip
theorem owLB_is : (match owLB with | .skip => false | _ => true) = true := by kernel_rfl
def ownS (S : St) (b : Bool) : St := (S.newBox [.v (.string ⟨⟨[]⟩⟩), .v (.int .i64 0), .v (.bool false), .v (.bool false), .v (.string ⟨⟨[]⟩⟩), .v (.bool false)]).to S.next [.v (.string ⟨⟨[97]⟩⟩), .v (.int .i64 0), .v (.bool b), .v (.bool false), .v (.string ⟨⟨[]⟩⟩), .v (.bool false)]
theorem own_ro {S : St} {tk : Nat} {es : List AV} (h : RowO 6 S tk es) (b : Bool) : RowO 6 (ownS S b) tk es := by
  refine h.keep ?_ fun h1 h2 => ?_
  · unfold ownS; simp only [to_next, nb_next]; omega
  · unfold ownS; simp only [to_get, nb_get]
    rw [if_neg (by omega), if_neg (by omega)]
theorem ow_lp {bs : List Bool} (h5 : bs.length ≤ 5) : ∀ (n j tk : Nat) (t : T AV) (S : St), j + n = bs.length → RowO 6 S tk ((bs.take j).map declT) → 2 ≤ S.next → t.get 3 = some (.sl tk 0 6 ((bs.take j).map declT)) → t.get 7 = some (.sl 0 0 6 (bs.map declT)) → t.get 8 = some (.v (.int .i64 ((bs.length : Nat) : Int))) → t.get 9 = some (.v (.int .i64 ((j : Nat) : Int))) →
    WX EZ 32 (.loop owLB) ⟨t, []⟩ S (fun r => ∃ t' S' tk, r = .out (.exit 0) ⟨t', []⟩ S' ∧ t'.get 3 = some (.sl tk 0 6 (bs.map declT)))
  | 0, j, tk, t, S, hj, RO, hn, T3, T7, T8, T9 => by
    refine WX_loop (W_sound ?_)
    have hlt : decide ((j : Int) < (bs.length : Int)) = false := by rw [decide_eq_false_iff_not]; omega
    simp (maxSteps := 2000000) (disch := omega) only [thenW_exit, W_skip, W_region, W_seq, W_cond, W_block, W_exit, seqQ_normal2, seqQ_exit2, WL_nil2, WL_cons, execL_val2, putL_some2, condW_f2, wantedA, exec1, evalO, T.get_set, ofOpt, neNil3, fb_lss, Nat.reduceLT, Nat.reduceEqDiff, if_true, if_false, true_and, Bool.false_eq_true, ez_P, owLB, Tryd.f11, T7, T8, T9, hlt]
    refine ⟨_, _, tk, rfl, ?_⟩
    simp only [T.get_set, Nat.reduceEqDiff, if_false, T3]
    rw [List.take_of_length_le (show bs.length ≤ j by omega)]
  | n + 1, j, tk, t, S, hj, RO, hn, T3, T7, T8, T9 => by
    refine WX_loop (W_sound ?_)
    have hjl : j < bs.length := by omega
    have hlt : decide ((j : Int) < (bs.length : Int)) = true := by rw [decide_eq_true_eq]; omega
    have hx := yxD 0 0 (bs.map declT) j (by rw [List.length_map]; exact hjl)
    rw [List.getElem_map] at hx
    have hws := wrapS j (by omega)
    have htk := take_T bs j hjl
    generalize bs[j] = bj at *
    have hn2 : 2 ≤ (ownS S bj).next := by unfold ownS; simp only [to_next, nb_next]; omega
    obtain ⟨bytes, hrt⟩ := ytO
    obtain ⟨S2, happ, ro2, n2, k2⟩ := push_row (E := EZ) hrt rfl rfl (own_ro RO bj) hn2 (declT bj) rfl (by rw [List.length_map, List.length_take]; omega)
    rw [htk] at happ ro2
    generalize hnx : (ownS S bj).next = nx at *
    simp only [declT, strS, ownS] at happ
    simp only [declT, strS, cells_agg] at hx
    simp (maxSteps := 2000000) (disch := omega) only [thenW_normal, thenW_exit, W_skip, W_region, W_seq, W_cond, W_block, W_exit, seqQ_normal2, seqQ_exit2, blockW_normal2, WL_nil2, WL_cons, execL_val2, execL_skip2, putL_none2, putL_some2, condW_t2, wantedA, exec1, evalO, T.get_set, callA, ofOpt, ofOptS, ofConst, partsA, neNil3, fb_lss, fb_add, Nat.reduceLT, Nat.reduceAdd, Nat.reduceEqDiff, if_true, if_false, true_and, List.getElem?_cons_succ, List.getElem?_cons_zero, List.nil_append, List.append_nil, Bool.false_eq_true, to_get, nb_get, cl1_box, vstB_agg, List.length_cons, List.length_nil, Nat.zero_add, Nat.add_zero, Nat.reduceLeDiff, List.drop_succ_cons, List.drop_nil, List.take_succ_cons, List.take_zero, and_self, ez_P, owLB, Tryd.f11, strS, yl4, yl9, yl3, yleE, ysE, yaE, yfE_0, yfE_1, yfE_2, yfE_3, yfE_4, yfE_5, ybT_01, ybO_a, yrO_1, T3, T7, T8, T9, hlt, hx, happ, hws]
    refine WX.mono (ow_lp h5 n (j + 1) nx _ S2 (by omega) ro2 (by omega) ?_ ?_ ?_ ?_) (fun r h => h)
    · simp only [T.get_set, Nat.reduceEqDiff, if_true, if_false] <;> rfl
    · simp only [T.get_set, Nat.reduceEqDiff, if_false, T7]
    · simp only [T.get_set, Nat.reduceEqDiff, if_false, T8]
    · simp only [T.get_set, Nat.reduceEqDiff, if_true, if_false]
theorem own_k (bs : List Bool) (h5 : bs.length ≤ 5) : KnZ 11 [.sl 0 0 6 (bs.map declT)] := by
  refine bodyZ Tryd.f11 (by kernel_rfl) (by kernel_rfl) (show (_ : Nat) ≤ _ from by show (_ : Nat) ≤ _; simp [Tryd.f11]) ?_
  have lp := fun t S => ow_lp h5 bs.length 0 1 t S (by omega) (.inl rfl)
  unfold owLB at lp
  simp only [Tryd.f11, List.take_zero, List.map_nil] at lp
  simp (maxSteps := 2000000) (disch := omega) only [W_region, W_seq, W_block, W_loop, seqQ_normal2, WL_nil2, WL_cons, execL_val2, putL_some2, wantedA, exec1, evalO, initT, T.get_set, T.get_leaf, callA, ofOpt, ofConst, partsA, Nat.reduceLT, Nat.reduceEqDiff, if_true, if_false, true_and, Option.getD_some, ez_P, Tryd.f11, ynD, yrO_0, List.length_map, initT]
  refine WX.mono (lp _ _ ?_ ?_ ?_ ?_ ?_) ?_
  · simp only [st0_next]; omega
  · simp only [T.get_set, T.get_leaf, Nat.reduceEqDiff, if_true, if_false] <;> rfl
  · simp only [T.get_set, T.get_leaf, Nat.reduceEqDiff, if_true, if_false] <;> rfl
  · simp only [T.get_set, T.get_leaf, Nat.reduceEqDiff, if_true, if_false] <;> rfl
  · simp only [T.get_set, T.get_leaf, Nat.reduceEqDiff, if_true, if_false] <;> rfl
  rintro r' ⟨t', S', tk, rfl, r3⟩
  simp (maxSteps := 2000000) (disch := omega) only [W_region, W_seq, W_ret, seqQ_normal2, seqQ_exit2, blockW_exit2, WL_nil2, WL_cons, execL_val2, putL_some2, wantedA, exec1, evalO, T.get_set, ofOpt, finW_ret, giveW, resultsA, tupA, Nat.reduceLT, Nat.reduceEqDiff, if_true, if_false, true_and, r3]
  refine ⟨_, _, rfl, (decls_free _).1, ?_⟩
  intro bs' hq _
  injection hq with h3 _
  rw [← h3]
  show AV.sl 0 0 6 (cleanL _) = _
  rw [(decls_free _).2]
theorem use_own {S : St} {Q : R → Prop} {bs : List Bool} (h5 : bs.length ≤ 5) (h : Q (.ret (.sl 0 0 6 (bs.map declT)) S)) : WC EZ 11 [.sl 0 0 6 (bs.map declT)] S Q :=
  callZ (own_k bs h5) (by kernel_rfl) (by show (freeL _ && true) = true; rw [(decls_free bs).1]; rfl) (by show [AV.sl 0 0 6 (cleanL _)] = _; rw [(decls_free bs).2]) fun a _ _ hs => by
    have := hs bs rfl h5
    subst this
    exact h
end Go.Ax
noncomputable section
namespace Go.Ax
open Go.RowKit Go.Proofs
set_option linter.unusedVariables false
set_option linter.unusedSimpArgs false
set_option maxRecDepth 100000
theorem ints_idx' {w : AV} {vs : List Int} (h : isInts w vs) (j : Nat) (hj : j < vs.length) : oIndexAddr Tryd.prog 42 w (.v (.int .i64 (j : Int))) = some (.ep [i64A vs[j]]) := by
  rw [ints_idx h j hj, gd_in _ _ _ hj]
def saLB : Code := match Tryd.f13.body with
  | some (.seq _ (.seq _ (.seq (.seq _ (.block _ (.loop c))) _))) => c
  | _ => .skip
theorem saLB_is : (match saLB with | .skip => false | _ => true) = true := by kernel_rfl
theorem eq_drop {xs ys : List Int} (hl : xs.length = ys.length) (j : Nat) (hj : j < ys.length) : xs.drop j = ys.drop j ↔ xs[j] = ys[j] ∧ xs.drop (j + 1) = ys.drop (j + 1) := by
  rw [List.drop_eq_getElem_cons (show j < xs.length by omega), List.drop_eq_getElem_cons hj, List.cons.injEq]
theorem same_fin {x y : AV} {xs ys : List Int} (hx : isInts x xs) (hy : isInts y ys) {a : Int} (ha : a = if xs = ys then 0 else -1) (S' : St) : ∃ a' S'', R.ret (.v (.int .i64 a)) S' = R.ret a' S'' ∧ freeV a' = true ∧ SpecZ 13 [x, y] (clean a') := by
  refine ⟨_, _, rfl, rfl, ?_⟩
  intro x' y' xs' ys' hq h1 h2 _
  injection hq with h3 h4
  injection h4 with h4 _
  subst h3; subst h4
  have e1 := isInts_inj hx h1
  have e2 := isInts_inj hy h2
  subst e1; subst e2
  rw [ha]; rfl
theorem sa_lp {x y : AV} {xs ys : List Int} (hx : isInts x xs) (hy : isInts y ys) (hl : xs.length = ys.length) (hb : ys.length ≤ 100000) : ∀ (n j : Nat) (t : T AV) (S : St), j + n = ys.length → (xs = ys ↔ xs.drop j = ys.drop j) → t.get 0 = some x → t.get 1 = some y → t.get 12 = some (.v (.int .i64 ((ys.length : Nat) : Int))) → t.get 13 = some (.v (.int .i64 ((j : Nat) : Int))) →
    WX EZ 26 (.loop saLB) ⟨t, []⟩ S (fun r => (∃ t' S', r = .out (.exit 0) ⟨t', []⟩ S' ∧ xs = ys) ∨ (∃ t' S', r = .out .ret ⟨t', []⟩ S' ∧ t'.get 4 = some (.v (.int .i64 (-1))) ∧ xs ≠ ys))
  | 0, j, t, S, hj, hi, T0, T1, T12, T13 => by
    refine WX_loop (W_sound ?_)
    have hlt : decide ((j : Int) < (ys.length : Int)) = false := by rw [decide_eq_false_iff_not]; omega
    simp (maxSteps := 2000000) (disch := omega) only [thenW_exit, W_skip, W_region, W_drawn, W_seq, W_cond, W_block, W_exit, seqQ_normal2, seqQ_exit2, WL_nil2, WL_cons, execL_val2, putL_some2, condW_f2, wantedA, exec1, evalO, T.get_set, ofOpt, neNil3, fb_lss, Nat.reduceLT, Nat.reduceEqDiff, if_true, if_false, true_and, Bool.false_eq_true, ez_P, saLB, Tryd.f13, T12, T13, hlt]
    refine .inl ⟨_, _, rfl, ?_⟩
    rw [hi, List.drop_of_length_le (by omega), List.drop_of_length_le (by omega)]
  | n + 1, j, t, S, hj, hi, T0, T1, T12, T13 => by
    refine WX_loop (W_sound ?_)
    have hjy : j < ys.length := by omega
    have hjx : j < xs.length := by omega
    have hlt : decide ((j : Int) < (ys.length : Int)) = true := by rw [decide_eq_true_eq]; omega
    have ix := ints_idx' hx j hjx
    have iy := ints_idx' hy j hjy
    have hws := wrapS j (by omega)
    rw [eq_drop hl j hjy] at hi
    generalize xs[j] = xj at *
    generalize ys[j] = yj at *
    simp only [i64A] at ix iy
    by_cases he : xj = yj
    · have hne : (xj != yj) = false := by rw [he]; simp
      simp (maxSteps := 2000000) (disch := omega) only [thenW_exit, W_skip, W_region, W_drawn, W_seq, W_cond, W_block, W_exit, seqQ_normal2, seqQ_exit2, WL_nil2, WL_cons, execL_val2, putL_some2, condW_t2, wantedA, exec1, evalO, T.get_set, ofOpt, neNil3, fb_lss, Nat.reduceLT, Nat.reduceEqDiff, if_true, if_false, true_and, Bool.false_eq_true, ez_P, saLB, Tryd.f13, T12, T13, hlt]
      refine WD_by [(0, true), (1, true), (2, true), (3, true), (4, true), (5, true), (6, true), (7, true), (8, true)] (by kernel_rfl) (by kernel_rfl) ?_
      simp (maxSteps := 2000000) (disch := omega) only [thenW_normal, thenW_ret, W_skip, W_region, W_seq, W_cond, W_ret, seqQ_normal2, seqQ_ret2, blockW_normal2, blockW_ret2, WL_nil2, WL_cons, execL_val2, putL_some2, condW_f2, wantedA, exec1, evalO, T.get_set, ofOpt, ofConst, neNil3, fb_add, fb_neqI, Nat.reduceLT, Nat.reduceEqDiff, if_true, if_false, true_and, List.getElem?_toArray, List.getElem?_cons_succ, List.getElem?_cons_zero, Bool.false_eq_true, WR_nil2, WR_op, execR_val2, putRW_some2, fixQ_normal2, rsOf, ez_P, yle2, neNil2, T0, T1, T13, ix, iy, hne, hws]
      refine WX.mono (sa_lp hx hy hl hb n (j + 1) _ _ (by omega) (hi.trans ⟨fun h => h.2, fun h => ⟨he, h⟩⟩) ?_ ?_ ?_ ?_) (fun r h => h)
      · simp only [T.get_set, Nat.reduceEqDiff, if_false, T0]
      · simp only [T.get_set, Nat.reduceEqDiff, if_false, T1]
      · simp only [T.get_set, Nat.reduceEqDiff, if_false, T12]
      · simp only [T.get_set, Nat.reduceEqDiff, if_true, if_false]
    · have hne : (xj != yj) = true := by rw [bne_iff_ne]; exact he
      simp (maxSteps := 2000000) (disch := omega) only [thenW_exit, W_skip, W_region, W_drawn, W_seq, W_cond, W_block, W_exit, seqQ_normal2, seqQ_exit2, WL_nil2, WL_cons, execL_val2, putL_some2, condW_t2, wantedA, exec1, evalO, T.get_set, ofOpt, neNil3, fb_lss, Nat.reduceLT, Nat.reduceEqDiff, if_true, if_false, true_and, Bool.false_eq_true, ez_P, saLB, Tryd.f13, T12, T13, hlt]
      refine WD_by [(0, true), (1, true), (2, true), (3, true), (4, true), (5, true), (6, true), (7, true), (8, true)] (by kernel_rfl) (by kernel_rfl) ?_
      simp (maxSteps := 2000000) (disch := omega) only [thenW_normal, thenW_ret, W_skip, W_region, W_seq, W_cond, W_ret, seqQ_normal2, seqQ_ret2, blockW_normal2, blockW_ret2, WL_nil2, WL_cons, execL_val2, putL_some2, condW_t2, wantedA, exec1, evalO, T.get_set, ofOpt, ofConst, neNil3, fb_add, fb_neqI, Nat.reduceLT, Nat.reduceEqDiff, if_true, if_false, true_and, List.getElem?_toArray, List.getElem?_cons_succ, List.getElem?_cons_zero, Bool.false_eq_true, WR_nil2, WR_op, execR_val2, putRW_some2, fixQ_normal2, rsOf, ez_P, yle2, neNil2, T0, T1, T13, ix, iy, hne, hws]
      refine .inr ⟨_, _, rfl, by simp only [T.get_set, Nat.reduceEqDiff, if_true, if_false], fun h => he (hi.1 h).1⟩
theorem same_k (x y : AV) (xs ys : List Int) (hx : isInts x xs) (hy : isInts y ys) (hb : ys.length ≤ 100000) : KnZ 13 [x, y] := by
  refine bodyZ Tryd.f13 (by kernel_rfl) (by kernel_rfl) (show (_ : Nat) ≤ _ from by show (_ : Nat) ≤ _; simp [Tryd.f13]) ?_
  have lx := fun S => ints_len hx S
  have ly := fun S => ints_len hy S
  by_cases hl : xs.length = ys.length
  · have hne : (((xs.length : Nat) : Int) != ((ys.length : Nat) : Int)) = false := by rw [hl]; simp
    have lp := fun t S => sa_lp hx hy hl hb ys.length 0 t S (by omega) (by rw [List.drop_zero, List.drop_zero])
    unfold saLB at lp
    simp only [Tryd.f13] at lp
    simp (maxSteps := 2000000) (disch := omega) only [W_skip, W_region, W_seq, W_cond, W_block, W_loop, W_ret, seqQ_normal2, seqQ_ret2, WL_nil2, WL_cons, execL_val2, putL_some2, condW_f2, wantedA, exec1, evalO, initT, T.get_set, T.get_leaf, callA, ofOpt, ofConst, neNil3, finW_ret, giveW, resultsA, tupA, fb_neqI, Nat.reduceLT, Nat.reduceEqDiff, if_true, if_false, true_and, Option.getD_some, Bool.false_eq_true, Nat.zero_add, ez_P, Tryd.f13, initT, lx, ly, hne]
    refine WX.mono (lp _ _ ?_ ?_ ?_ ?_) ?_
    · simp only [T.get_set, T.get_leaf, Nat.reduceEqDiff, if_true, if_false] <;> rfl
    · simp only [T.get_set, T.get_leaf, Nat.reduceEqDiff, if_true, if_false] <;> rfl
    · simp only [T.get_set, T.get_leaf, Nat.reduceEqDiff, if_true, if_false] <;> rfl
    · simp only [T.get_set, T.get_leaf, Nat.reduceEqDiff, if_true, if_false] <;> rfl
    rintro r' (⟨t', S', rfl, he⟩ | ⟨t', S', rfl, r4, he⟩)
    · simp (maxSteps := 2000000) (disch := omega) only [W_region, W_seq, W_ret, seqQ_normal2, seqQ_exit2, blockW_exit2, WL_nil2, WL_cons, execL_val2, putL_some2, wantedA, exec1, evalO, T.get_set, ofOpt, ofConst, finW_ret, giveW, resultsA, tupA, Nat.reduceLT, if_true, true_and]
      exact same_fin hx hy (by rw [if_pos he]) _
    · simp (maxSteps := 2000000) (disch := omega) only [seqQ_ret2, blockW_ret2, finW_ret, giveW, resultsA, tupA, r4]
      exact same_fin hx hy (by rw [if_neg he]) _
  · have hne : (((xs.length : Nat) : Int) != ((ys.length : Nat) : Int)) = true := by rw [bne_iff_ne]; omega
    simp (maxSteps := 2000000) (disch := omega) only [W_skip, W_region, W_seq, W_cond, W_block, W_loop, W_ret, seqQ_normal2, seqQ_ret2, WL_nil2, WL_cons, execL_val2, putL_some2, condW_t2, wantedA, exec1, evalO, initT, T.get_set, T.get_leaf, callA, ofOpt, ofConst, neNil3, finW_ret, giveW, resultsA, tupA, fb_neqI, Nat.reduceLT, Nat.reduceEqDiff, if_true, if_false, true_and, Option.getD_some, Bool.false_eq_true, Nat.zero_add, ez_P, Tryd.f13, initT, lx, ly, hne]
    exact same_fin hx hy (by rw [if_neg (fun h => hl (by rw [h]))]) _
theorem use_same {S : St} {Q : R → Prop} {x y : AV} {xs ys : List Int} (hx : isInts x xs) (hy : isInts y ys) (hb : ys.length ≤ 100000) (fx : freeV x = true) (cx : clean x = x) (fy : freeV y = true) (cy : clean y = y) (h : Q (.ret (i64A (if xs = ys then 0 else -1)) S)) : WC EZ 13 [x, y] S Q :=
  callZ (same_k x y xs ys hx hy hb) (by kernel_rfl) (by show (freeV x && (freeV y && true)) = true; rw [fx, fy]; rfl) (by show [clean x, clean y] = _; rw [cx, cy]) fun a _ _ hs => by
    have := hs x y xs ys rfl hx hy hb
    subst this
    exact h
end Go.Ax
noncomputable section
namespace Go.Ax
open Go.RowKit Go.Proofs
set_option linter.unusedVariables false
set_option linter.unusedSimpArgs false
set_option maxRecDepth 100000
theorem bools_free : ∀ bs : List Bool, freeL (bs.map boolA) = true ∧ cleanL (bs.map boolA) = bs.map boolA
  | [] => ⟨rfl, rfl⟩
  | t :: r => by
    have ih := bools_free r
    exact ⟨by rw [List.map_cons, freeL, ih.1]; rfl, by rw [List.map_cons, cleanL, ih.2]; rfl⟩
theorem bools_cl {w : AV} {bs : List Bool} (h : isBools w bs) : freeV w = true ∧ isBools (clean w) bs := by
  rcases h with ⟨rfl, rfl⟩ | ⟨tok, off, rfl⟩
  · exact ⟨rfl, .inl ⟨rfl, rfl⟩⟩
  · exact ⟨(bools_free bs).1, .inr ⟨0, 0, by show AV.sl 0 0 1 (cleanL _) = _; rw [(bools_free bs).2]⟩⟩
theorem ints_cl {w : AV} {vs : List Int} (h : isInts w vs) : freeV w = true ∧ isInts (clean w) vs := by
  rcases h with ⟨rfl, rfl⟩ | ⟨tok, off, rfl⟩ | ⟨a, rfl, rfl⟩
  · exact ⟨rfl, .inl ⟨rfl, rfl⟩⟩
  · exact ⟨(ints_free vs).1, .inr (.inl ⟨0, 0, by show AV.sl 0 0 1 (cleanL _) = _; rw [(ints_free vs).2]⟩)⟩
  · exact ⟨rfl, .inr (.inr ⟨a, rfl, rfl⟩)⟩
theorem decls_u {S : St} {Q : R → Prop} {w : AV} {bs : List Bool} (hw : isBools w bs) (h : ∀ bs', bs' = bs.take 5 → Q (.ret (.sl 0 0 6 (bs'.map declT)) S)) : WC EZ 9 [w] S Q :=
  callZ (decls_k (clean w) bs (bools_cl hw).2) (by kernel_rfl) (by show (freeV w && true) = true; rw [(bools_cl hw).1]; rfl) rfl fun a _ _ hs => by
    have := hs (clean w) bs rfl (bools_cl hw).2
    subst this
    exact h _ rfl
theorem same_u {S : St} {Q : R → Prop} {x y : AV} {xs ys : List Int} (hx : isInts x xs) (hy : isInts y ys) (hb : ys.length ≤ 100000) (h : Q (.ret (i64A (if xs = ys then 0 else -1)) S)) : WC EZ 13 [x, y] S Q :=
  callZ (same_k (clean x) (clean y) xs ys (ints_cl hx).2 (ints_cl hy).2 hb) (by kernel_rfl) (by show (freeV x && (freeV y && true)) = true; rw [(ints_cl hx).1, (ints_cl hy).1]; rfl) rfl fun a _ _ hs => by
    have := hs (clean x) (clean y) xs ys rfl (ints_cl hx).2 (ints_cl hy).2 hb
    subst this
    exact h
def nodA (bs : List Bool) : AV := .agg [strS [], i64A 0, .sl 0 0 6 (bs.map declT), .nils, .nils, .nils]
theorem nod_free (bs : List Bool) : freeV (nodA bs) = true ∧ clean (nodA bs) = nodA bs := by
  obtain ⟨h1, h2⟩ := decls_free bs
  refine ⟨?_, ?_⟩
  · show (freeL (bs.map declT) && true) = true; rw [h1]; rfl
  · show AV.agg [strS [], i64A 0, .sl 0 0 6 (cleanL (bs.map declT)), .nils, .nils, .nils] = _; rw [h2]; rfl
/-- What is to be known of the program's reader. -/
def FeedKn : Prop := ∀ (bs : List Bool) (l : List UInt8), bs.length ≤ 5 → l.length ≤ 100000 → KnZ 10 [nodA bs, strS l]
theorem feed_u (hF : FeedKn) {S : St} {Q : R → Prop} {bs : List Bool} {l : List UInt8} (hb : bs.length ≤ 5) (hl : l.length ≤ 100000) (h : ∀ v, isRows v (linesF bs 0 0 (splitB 10 l)).1 → Q (.ret (.tup [v, i64A (linesF bs 0 0 (splitB 10 l)).2.1, i64A (linesF bs 0 0 (splitB 10 l)).2.2]) S)) : WC EZ 10 [nodA bs, strS l] S Q :=
  callZ (hF bs l hb hl) (by kernel_rfl) (by show (freeV (nodA bs) && true) = true; rw [(nod_free bs).1]; rfl) (by show [clean (nodA bs), _] = _; rw [(nod_free bs).2]; rfl) fun a _ _ hs => by
    obtain ⟨v, rfl, hv⟩ := hs bs l rfl hb hl
    exact h v hv
theorem yrB_2 (x y : Bool) : oBuildSlice Tryd.prog 22 2 [(0, .v (.bool x)), (1, .v (.bool y))] = some (.sl 1 0 1 [.v (.bool x), .v (.bool y)]) := by kernel_rfl
theorem ybM_2 (tok off : Nat) (L : List AV) : oBuild Tryd.prog 35 [(2, .sl tok off 6 L)] = some (.agg [.v (.string ⟨⟨[]⟩⟩), .v (.int .i64 0), .sl tok off 6 L, .nils, .nils, .nils]) := by kernel_rfl
theorem ybN_2 (tok off : Nat) (L : List AV) : oBuild Tryd.prog 40 [(2, .sl tok off 6 L)] = some (.agg [.v (.string ⟨⟨[]⟩⟩), .v (.int .i64 0), .sl tok off 6 L, .nils, .nils, .nils]) := by kernel_rfl
theorem yg42 : isAggT Tryd.prog 42 = some false := by kernel_rfl
theorem yle42 (S : St) (c : AV) (cs : List AV) : oLoad Tryd.prog S 42 (.ep (c :: cs)) = some c := vldSE yg42 S c cs
theorem neNil28 (a b : AV) : neNil Tryd.prog 28 a b = false := by
  have h : Tryd.prog.underlying 28 = some (.int .i64) := by kernel_rfl
  unfold neNil; rw [h]
theorem aw_1 : linesF [false, true] 0 0 (splitB 10 [55, 32, 116, 114, 117, 101]) = ([[7, 1]], -1, 0) := by kernel_rfl
theorem aw_2 : linesF [false, true] 0 0 (splitB 10 [48, 55, 32, 116, 114, 117, 101]) = ([], 0, 1) := by kernel_rfl
theorem rows_1 {v : AV} {r : List Int} (h : isRows v [r]) (hr : r ≠ []) : ∃ tok off t2 o2, v = .sl tok off 1 [.sl t2 o2 1 (r.map i64A)] := by
  rcases h with ⟨_, h⟩ | ⟨tok, off, es, rfl, h⟩
  · cases h
  · match es, h with
    | [e], h =>
      rcases h.1 with ⟨_, h⟩ | ⟨t2, o2, rfl⟩ | ⟨_, _, h⟩
      · exact absurd h hr
      · exact ⟨tok, off, t2, o2, rfl⟩
      · exact absurd h hr
theorem fnz_9 : ∃ fn, EZ.F 9 = some fn := Option.isSome_iff_exists.1 (by kernel_rfl)
theorem fnz_11 : ∃ fn, EZ.F 11 = some fn := Option.isSome_iff_exists.1 (by kernel_rfl)
theorem fnz_10 : ∃ fn, EZ.F 10 = some fn := Option.isSome_iff_exists.1 (by kernel_rfl)
theorem aw_k (hF : FeedKn) : KnZ 7 [] := by
  refine bodyZ Tryd.f7 (by kernel_rfl) (by kernel_rfl) (show (_ : Nat) ≤ _ from by show (_ : Nat) ≤ _; simp [Tryd.f7]) ?_
  obtain ⟨fn1, hf1⟩ := fnz_9
  obtain ⟨fn2, hf2⟩ := fnz_11
  obtain ⟨fn3, hf3⟩ := fnz_10
  have h77 : ((7 : Int) == 7) = true := rfl
  have h11 : (((1 : Nat) : Int) == 1) = true := rfl
  have h22 : (((2 : Nat) : Int) == 2) = true := rfl
  have h00 : (((0 : Nat) : Int) == 0) = true := rfl
  simp (maxSteps := 2000000) (disch := omega) only [W_region, W_seq, seqQ_normal2, WL_nil2, WL_cons, execL_val2, execL_enter2, putL_some2, wantedA, exec1, evalO, initT, T.get_set, T.get_leaf, callA, mapO, ofOpt, ofConst, partsA, Nat.reduceLT, Nat.reduceEqDiff, if_true, if_false, true_and, Option.getD_some, List.nil_append, List.append_nil, ez_P, Tryd.f7, yrB_2, initT, hf1]
  refine decls_u (bs := [false, true]) (.inr ⟨1, 0, rfl⟩) fun bs hbs => ?_
  have h5 : bs.length ≤ 5 := by rw [hbs]; decide
  generalize hL : bs.map declT = L
  simp (maxSteps := 2000000) (disch := omega) only [WL_cons, execL_enter2, putL_some2, retL_ret2, wantedA, exec1, evalO, T.get_set, T.get_leaf, callA, mapO, Nat.reduceLT, Nat.reduceEqDiff, if_true, if_false, true_and, List.nil_append, List.append_nil, hf2]
  subst hL
  refine use_own h5 ?_
  generalize hL : bs.map declT = L
  simp (maxSteps := 2000000) (disch := omega) only [W_region, W_seq, seqQ_normal2, WL_nil2, WL_cons, execL_val2, execL_skip2, execL_enter2, putL_none2, putL_some2, retL_ret2, wantedA, exec1, evalO, T.get_set, T.get_leaf, callA, mapO, ofOpt, ofOptS, ofConst, partsA, Nat.reduceLT, Nat.reduceAdd, Nat.reduceEqDiff, if_true, if_false, true_and, List.nil_append, List.append_nil, to_get, nb_get, st0_get, st0_next, clN_box, vstB_agg, List.length_cons, List.length_nil, Nat.zero_add, Nat.reduceLeDiff, List.drop_zero, List.drop_succ_cons, List.drop_nil, List.take_succ_cons, List.take_zero, and_self, ez_P, ybM_2, ylM, ysM, yaM, strS, hf3]
  subst hL
  refine feed_u hF (bs := bs) (l := [55, 32, 116, 114, 117, 101]) h5 (by decide) fun v hv => ?_
  rw [show linesF bs 0 0 (splitB 10 [55, 32, 116, 114, 117, 101]) = ([[7, 1]], -1, 0) from by rw [hbs]; exact aw_1] at hv ⊢
  obtain ⟨tok, off, t2, o2, rfl⟩ := rows_1 hv (by simp)
  simp only [List.map_cons, List.map_nil]
  generalize hL : bs.map declT = L
  simp (maxSteps := 2000000) (disch := omega) only [W_region, W_seq, seqQ_normal2, WL_nil2, WL_cons, execL_val2, execL_enter2, putL_some2, retL_ret2, wantedA, exec1, evalO, T.get_set, T.get_leaf, callA, mapO, ofOpt, ofConst, Nat.reduceLT, Nat.reduceAdd, Nat.reduceEqDiff, if_true, if_false, true_and, List.getElem?_cons_succ, List.getElem?_cons_zero, List.nil_append, List.append_nil, to_get, nb_get, st0_get, st0_next, clN_box, List.length_cons, List.length_nil, Nat.zero_add, Nat.reduceLeDiff, List.drop_zero, List.take_succ_cons, List.take_zero, oExtract, ez_P, ylM, i64A, oExtract, hf3]
  subst hL
  refine feed_u hF (bs := bs) (l := [48, 55, 32, 116, 114, 117, 101]) h5 (by decide) fun v2 hv2 => ?_
  rw [show linesF bs 0 0 (splitB 10 [48, 55, 32, 116, 114, 117, 101]) = ([], 0, 1) from by rw [hbs]; exact aw_2] at hv2 ⊢
  have hx0 : oIndexAddr Tryd.prog 27 (.sl tok off 1 [.sl t2 o2 1 [.v (.int .i64 7), .v (.int .i64 1)]]) (.v (.int .i64 0)) = some (.ep [.sl t2 o2 1 [.v (.int .i64 7), .v (.int .i64 1)]]) := yxR tok off [.sl t2 o2 1 [.v (.int .i64 7), .v (.int .i64 1)]] 0 (by simp)
  have hy0 : oIndexAddr Tryd.prog 42 (.sl t2 o2 1 [.v (.int .i64 7), .v (.int .i64 1)]) (.v (.int .i64 0)) = some (.ep [.v (.int .i64 7)]) := yxI t2 o2 [.v (.int .i64 7), .v (.int .i64 1)] 0 (by simp)
  have hy1 : oIndexAddr Tryd.prog 42 (.sl t2 o2 1 [.v (.int .i64 7), .v (.int .i64 1)]) (.v (.int .i64 1)) = some (.ep [.v (.int .i64 1)]) := yxI t2 o2 [.v (.int .i64 7), .v (.int .i64 1)] 1 (by simp)
  simp (maxSteps := 2000000) (disch := omega) only [W_region, W_seq, W_ret, seqQ_normal2, WL_nil2, WL_cons, execL_val2, putL_some2, retL_ret2, wantedA, exec1, evalO, T.get_set, T.get_leaf, callA, ofOpt, ofConst, neNil3, finW_ret, giveW, resultsA, tupA, fb_eqlI, Nat.reduceLT, Nat.reduceAdd, Nat.reduceEqDiff, if_true, if_false, true_and, List.getElem?_toArray, List.getElem?_cons_succ, List.getElem?_cons_zero, Option.bind_some, beq_self_eq_true, Bool.false_eq_true, List.length_cons, List.length_nil, Nat.zero_add, oExtract, ez_P, neNil2, neNil28, i64A, oExtract, ynR, ynI, yle42, yle2, hx0, hy0, hy1, h11, h22, h00]
  refine ⟨_, _, rfl, rfl, ?_⟩
  intro _
  rfl
end Go.Ax
noncomputable section
namespace Go.Ax
open Go.RowKit Go.Proofs
set_option linter.unusedVariables false
set_option linter.unusedSimpArgs false
set_option maxRecDepth 100000
theorem sl9_to (l : List UInt8) (j : Nat) (h : j ≤ l.length) : fastSlice Tryd.prog 9 (.v (.string ⟨⟨l⟩⟩)) none (some (.v (.int .i64 (j : Int)))) = some (.v (.string ⟨⟨l.take j⟩⟩)) := by
  have h1 : (0 : Int) ≤ (j : Int) := by omega
  have hs : (⟨⟨l⟩⟩ : ByteArray).size = l.length := rfl
  simp only [fastSlice, u9, boundA, if_pos h1, Int.toNat_natCast, hs]
  rw [Nat.ble_eq_true_of_le h, Nat.ble_eq_true_of_le (Nat.zero_le _)]
  rfl
theorem cut_w (l : List UInt8) (S : St) : WC EZ 8 [strS l, .v (.int .i64 300)] S (fun r => r = .ret (strS (l.take 300)) S) := by
  refine WC_fn Tryd.f8 (by kernel_rfl) (by kernel_rfl) (by kernel_rfl) (show (_ : Nat) ≤ _ from by show (_ : Nat) ≤ _; simp [Tryd.f8]) ?_
  by_cases h : 300 < l.length
  · have hg : decide ((l.length : Int) > 300) = true := by rw [decide_eq_true_eq]; omega
    have hs : fastSlice Tryd.prog 9 (.v (.string ⟨⟨l⟩⟩)) none (some (.v (.int .i64 300))) = some (.v (.string ⟨⟨l.take 300⟩⟩)) := sl9_to l 300 (by omega)
    simp (maxSteps := 2000000) (disch := omega) only [W_skip, W_region, W_seq, W_cond, W_ret, seqQ_normal2, seqQ_ret2, WL_nil2, WL_cons, execL_val2, putL_some2, condW_t2, wantedA, exec1, evalO, initT, T.get_set, T.get_leaf, callA, mapO, ofOpt, ofConst, neNil3, finW_ret, giveW, resultsA, tupA, fb_gtr, Nat.reduceLT, Nat.reduceEqDiff, if_true, if_false, true_and, Option.getD_some, Bool.false_eq_true, Option.toList, List.head?_cons, List.head?_nil, Nat.zero_add, and_self, ez_P, ez_G, Tryd.f8, strS, len9, initT, hg, hs]
  · have hg : decide ((l.length : Int) > 300) = false := by rw [decide_eq_false_iff_not]; omega
    rw [List.take_of_length_le (show l.length ≤ 300 by omega)]
    simp (maxSteps := 2000000) (disch := omega) only [W_skip, W_region, W_seq, W_cond, W_ret, seqQ_normal2, WL_nil2, WL_cons, execL_val2, putL_some2, condW_f2, wantedA, exec1, evalO, initT, T.get_set, T.get_leaf, callA, mapO, ofOpt, ofConst, neNil3, finW_ret, giveW, resultsA, tupA, fb_gtr, Nat.reduceLT, Nat.reduceEqDiff, if_true, if_false, true_and, Option.getD_some, Bool.false_eq_true, Option.toList, List.head?_cons, List.head?_nil, Nat.zero_add, and_self, ez_P, ez_G, Tryd.f8, strS, len9, initT, hg]
theorem rowsF_len : ∀ (ts : List Bool) (ws : List (List UInt8)), (rowsF ts ws).2 = 0 → (rowsF ts ws).1.length = ts.length
  | [], [], _ => rfl
  | _ :: _, [], h => absurd (show (12 : Nat) = 0 from h) (by decide)
  | [], _ :: _, h => absurd (show (12 : Nat) = 0 from h) (by decide)
  | t :: ts, w :: ws, h => by
    have ih := rowsF_len ts ws
    rw [rowsF] at h ⊢
    by_cases h1 : (valF w t).2 = 0
    · rw [if_pos h1] at h ⊢
      by_cases h2 : (rowsF ts ws).2 = 0
      · rw [if_pos h2, List.length_cons, List.length_cons, ih h2]
      · rw [if_neg h2] at h; exact absurd h h2
    · rw [if_neg h1] at h; exact absurd h h1
theorem rowF_len (ts : List Bool) (l : List UInt8) (h : (rowF ts l).2 = 0) : (rowF ts l).1.length = ts.length := by
  unfold rowF at h ⊢
  by_cases ht : ts = []
  · rw [if_pos ht, ht]; rfl
  · rw [if_neg ht] at h ⊢; exact rowsF_len _ _ h
theorem lines_len : ∀ (ts : List Bool) (ls : List (List UInt8)) (k n : Nat), ∀ r ∈ (linesF ts k n ls).1, r.length = ts.length
  | ts, [], k, n, r, h => by cases h
  | ts, l :: ls, k, n, r, h => by
    rw [linesF] at h
    split at h
    · exact lines_len ts ls _ _ r h
    · split at h
      · cases h
      · split at h
        · rename_i h0
          split at h
          · rcases List.mem_cons.1 h with rfl | h
            · exact rowF_len ts l h0
            · exact lines_len ts ls _ _ r h
          · exact lines_len ts ls _ _ r h
        · cases h
theorem rv_ints (ts : List Bool) (r : List Int) (h : r.length = ts.length) : isInts (rowVal ts (r, 0)) r := by
  unfold rowVal
  by_cases ht : ts = []
  · rw [if_pos (.inl ht)]; subst ht; exact .inl ⟨rfl, List.length_eq_zero_iff.1 h⟩
  · rw [if_neg (by rintro (h | h) <;> first | exact ht h | exact h rfl)]; exact .inr (.inl ⟨0, 0, rfl⟩)
theorem rvs_rows (ts : List Bool) : ∀ rows : List (List Int), (∀ r ∈ rows, r.length = ts.length) → rows20 (rvs ts rows) rows
  | [], _ => trivial
  | r :: rows, h => ⟨rv_ints ts r (h r (List.mem_cons_self ..)), rvs_rows ts rows fun r' h' => h r' (List.mem_cons_of_mem _ h')⟩
theorem lines_rows (ts : List Bool) (ls : List (List UInt8)) : isRows (linesVal ts (linesF ts 0 0 ls)) (linesF ts 0 0 ls).1 := by
  unfold linesVal
  by_cases h : (linesF ts 0 0 ls).2.2 = 0
  · rw [if_neg (fun h2 => h2 h)]
    exact .inr ⟨0, 0, _, rfl, rvs_rows ts _ (lines_len ts ls 0 0)⟩
  · rw [if_pos h]; exact .inl ⟨rfl, (lines_shape ts ls 0 0).2 h⟩
theorem rows20_len : ∀ {es : List AV} {rows : List (List Int)}, rows20 es rows → es.length = rows.length
  | [], [], _ => rfl
  | e :: es, r :: rs, h => by rw [List.length_cons, List.length_cons, rows20_len h.2]
  | [], _ :: _, h => h.elim
  | _ :: _, [], h => h.elim
theorem rows20_get : ∀ {es : List AV} {rows : List (List Int)}, rows20 es rows → ∀ (j : Nat) (h : j < rows.length) (h2 : j < es.length), isInts es[j] rows[j]
  | e :: es, r :: rs, h, 0, _, _ => h.1
  | e :: es, r :: rs, h, j + 1, h1, h2 => rows20_get h.2 j (by simpa using h1) (by simpa using h2)
  | [], _ :: _, h, _, _, _ => h.elim
  | _, [], _, j, h1, _ => absurd h1 (Nat.not_lt_zero j)
theorem rows_len {v : AV} {rows : List (List Int)} (h : isRows v rows) (S : St) : oLen Tryd.prog S 27 v = some rows.length := by
  rcases h with ⟨rfl, rfl⟩ | ⟨tok, off, es, rfl, h⟩
  · exact ynnR S
  · rw [ynR, rows20_len h]
theorem rows_idx {v : AV} {rows : List (List Int)} (h : isRows v rows) (j : Nat) (hj : j < rows.length) : ∃ e, oIndexAddr Tryd.prog 27 v (.v (.int .i64 (j : Int))) = some (.ep [e]) ∧ isInts e rows[j] := by
  rcases h with ⟨rfl, rfl⟩ | ⟨tok, off, es, rfl, h⟩
  · exact absurd hj (Nat.not_lt_zero _)
  · have hl := rows20_len h
    have hi := rows20_get h j hj (by omega)
    refine ⟨es[j]'(by omega), ?_, hi⟩
    rw [yxR tok off es j (by omega)]
    rcases hi with ⟨h1, _⟩ | ⟨_, _, h1⟩ | ⟨_, h1, _⟩ <;> rw [h1] <;> rfl
end Go.Ax
noncomputable section
namespace Go.Ax
open Go.RowKit
set_option linter.unusedVariables false
set_option linter.unusedSimpArgs false
/-- The fence of a frame: any function; perhaps a round. -/
def FF (r : Option Nat) : Fence := { Fence.wide with round := r }
theorem FF_calls {r : Option Nat} {k : Nat} {P : Program} {f : FuncId} {args : Array Value} {w : World} {R : Ending → World → Prop} (h : Calls P f args w R) : CallsIn (FF r) k P f args w R := by
  have h0 : CallsIn Fence.wide k P f args w R := callsIn_wide.2 h
  cases r with
  | none => exact h0
  | some l => exact CallsIn.inRound l h0
theorem FF_rows {r : Option Nat} {k : Nat} {P : Program} {f : String} {args : Array Value} {w : World} {R : Value → World → Prop} (h : Rows P f args w R) : RowsIn (FF r) k P f args w R := by
  intro c cs _
  obtain ⟨v, w', h1, h2⟩ := h c cs
  exact ⟨v, w', h1, stepsIn_wide.2 h2⟩
/-- Behind a piece of code: no deferred calls but those that were there. -/
def QD (ds : List Deferred) (Q : Exit → Act → World → Prop) : Exit → Act → World → Prop
  | .outgrown, _, _ => False
  | e, a, w => a.defers = [] ∧ Q e ⟨a.tmps, ds⟩ w
theorem put_ds (a : Act) (ds : List Deferred) (dst : Option Tmp) (v : Value) : (⟨(a.put dst v).tmps, ds⟩ : Act) = (⟨a.tmps, ds⟩ : Act).put dst v := by cases dst <;> rfl
theorem put_dfr (a : Act) (dst : Option Tmp) (v : Value) : (a.put dst v).defers = a.defers := by cases dst <;> rfl
theorem QD_out {ds : List Deferred} {Q : Exit → Act → World → Prop} (h : LetsOut (QD ds Q)) : False := by
  obtain ⟨a, w, h⟩ := h; exact h
theorem QD_pan {ds : List Deferred} {Q : Exit → Act → World → Prop} {ch : List PanicEntry} {a : Act} {w : World} (h : QD ds Q (.panic ch) a w) : a.defers = [] ∧ Q (.panic ch) ⟨a.tmps, ds⟩ w := h
theorem calls_some {P : Program} {f : FuncId} {args : Array Value} {w : World} {R : Ending → World → Prop} (h : Calls P f args w R) : ∃ e w', R e w' := by
  obtain ⟨e, w', fr, hr, _⟩ := h []
  exact ⟨e, w', hr⟩
/-- The step's own marks are none, when none are left behind it. -/
theorem wp_dfr {P : Program} {o : Oper} {act : Act} {w : World} {K : Act → World → Prop} {ds : List Deferred} {Q : Exit → Act → World → Prop} (hK : ∀ a w, K a w → a.defers = []) (h : o.wp P act w K (QD ds Q)) : act.defers = [] := by
  unfold Oper.wp at h
  generalize (execOp act.eval o).run P w = x at h
  cases x with
  | ok v w' =>
    cases v with
    | value v => exact (put_dfr act o.dst v).symm.trans (hK _ _ h)
    | skip => exact (put_dfr act o.dst undef).symm.trans (hK _ _ h)
    | defer d => have := hK _ _ h; rw [put_dfr] at this; cases this
    | enter f args =>
      obtain ⟨e, w2, h⟩ := calls_some h
      cases e with
      | returned v => exact (put_dfr act o.dst v).symm.trans (hK _ _ h)
      | panicked ch => exact (QD_pan h).1
      | outgrown => exact (QD_out h).elim
    | row f args =>
      obtain ⟨v, w2, h, _⟩ := h default []
      exact (put_dfr act o.dst v).symm.trans (hK _ _ h)
    | _ => exact False.elim h
  | halt x w' => cases x <;> first | exact (QD_pan h).1 | exact False.elim h
theorem wp_in {P : Program} {o : Oper} {act : Act} {w : World} {r : Option Nat} {k : Nat} {K K' : Act → World → Prop} {ds : List Deferred} {Q : Exit → Act → World → Prop} (hro : r = none ∨ ∀ c, o.op ≠ .defer c)
    (hK : ∀ a w, K a w → a.defers = [] ∧ K' ⟨a.tmps, ds⟩ w) (h : o.wp P act w K (QD ds Q)) : o.wpIn (FF r) k P ⟨act.tmps, ds⟩ w K' Q := by
  refine ⟨fun _ _ => trivial, ?_⟩
  have he : Oper.semAt (FF r).round (Act.eval ⟨act.tmps, ds⟩) o = execOp act.eval o := by
    rcases hro with rfl | h
    · rfl
    · cases r with
      | none => rfl
      | some l => exact Oper.semAt_some l _ _ h
  rw [he]
  unfold Oper.wp at h
  generalize (execOp act.eval o).run P w = x at h
  have hd : (FF r).depth.isSome = true → 1 ≤ k := fun h => by cases h
  cases x with
  | ok v w' =>
    cases v with
    | value v => have := (hK _ _ h).2; rw [put_ds] at this; exact this
    | skip => have := (hK _ _ h).2; rw [put_ds] at this; exact this
    | defer d => have := (hK _ _ h).1; rw [put_dfr] at this; cases this
    | enter f args =>
      refine ⟨hd, FF_calls (Calls.mono h fun e w'' he => ?_)⟩
      cases e with
      | returned v => have := (hK _ _ he).2; rw [put_ds] at this; exact this
      | panicked ch => exact (QD_pan he).2
      | outgrown => exact (QD_out he).elim
    | row f args =>
      refine ⟨hd, FF_rows (fun c cs => ?_)⟩
      obtain ⟨v, w2, h1, h2⟩ := h c cs
      exact ⟨v, w2, by have := (hK _ _ h1).2; rw [put_ds] at this; exact this, h2⟩
    | _ => exact False.elim h
  | halt x w' => cases x <;> first | exact (QD_pan h).2 | exact False.elim h
theorem list_dfr {P : Program} {ops : Array Oper} {ds : List Deferred} {Q : Exit → Act → World → Prop} : ∀ (l : List Oper) (act : Act) (w : World), wpList P ops (QD ds Q) l act w → act.defers = []
  | [], act, w, h => h.1
  | o :: rest, act, w, h => by
    unfold wpList at h
    split at h
    · rcases h with h | ⟨_, h⟩
      · exact wp_dfr (fun a w h => list_dfr rest a w h) h
      · exact (QD_out h).elim
    · exact (put_dfr act o.dst undef).symm.trans (list_dfr rest _ _ h)
theorem list_in {P : Program} {ops : Array Oper} {r : Option Nat} {k : Nat} {ds : List Deferred} {Q : Exit → Act → World → Prop} : ∀ (l : List Oper), (r = none ∨ ∀ o ∈ l, ∀ c, o.op ≠ .defer c) → ∀ (act : Act) (w : World), wpList P ops (QD ds Q) l act w → wpListIn (FF r) k P ops Q l ⟨act.tmps, ds⟩ w
  | [], _, act, w, h => h.2
  | o :: rest, hn, act, w, h => by
    have hn' : r = none ∨ ∀ o ∈ rest, ∀ c, o.op ≠ .defer c := hn.imp id fun h o ho => h o (List.mem_cons_of_mem _ ho)
    unfold wpList at h
    unfold wpListIn
    show if Region.wanted o (yielded ops act.tmps) = true then _ else _
    split at h
    · rename_i hw
      rw [if_pos hw]
      rcases h with h | ⟨_, h⟩
      · exact wp_in (hn.imp id fun h => h o (List.mem_cons_self ..)) (fun a w h => ⟨list_dfr rest a w h, list_in rest hn' a w h⟩) h
      · exact (QD_out h).elim
    · rename_i hw
      rw [if_neg hw]
      refine ⟨fun _ _ => trivial, ?_⟩
      have := list_in (k := k) rest hn' _ _ h
      rw [put_ds] at this
      exact this
theorem any_dfr {P : Program} {md : Region.Mode} {ops : Array Oper} {ds : List Deferred} {Q : Exit → Act → World → Prop} : ∀ (fuel : Nat) (listed : Array Bool) (act : Act) (w : World), wpAny P md ops (QD ds Q) fuel listed act w → act.defers = []
  | 0, listed, act, w, h => h.2.1
  | fuel + 1, listed, act, w, h => by
    cases hr : Region.ready md ops listed with
    | nil => exact (h.1 hr).1
    | cons i l =>
      have h := h.2 i (by rw [hr]; exact List.mem_cons_self ..)
      unfold wpOp at h
      split at h
      · exact any_dfr fuel _ _ _ h
      · split at h
        · rcases h with h | ⟨_, h⟩
          · exact wp_dfr (fun a w h => any_dfr fuel _ a w h) h
          · exact (QD_out h).elim
        · rename_i o _ _
          exact (put_dfr act o.dst undef).symm.trans (any_dfr fuel _ _ _ h)
theorem any_in {P : Program} {md : Region.Mode} {ops : Array Oper} {r : Option Nat} {k : Nat} {ds : List Deferred} {Q : Exit → Act → World → Prop} (hn : r = none ∨ ∀ o ∈ ops.toList, ∀ c, o.op ≠ .defer c) : ∀ (fuel : Nat) (listed : Array Bool) (act : Act) (w : World), wpAny P md ops (QD ds Q) fuel listed act w → wpAnyIn (FF r) k P md ops Q fuel listed ⟨act.tmps, ds⟩ w
  | 0, listed, act, w, h => ⟨h.1, h.2.2⟩
  | fuel + 1, listed, act, w, h => by
    refine ⟨fun hr => (h.1 hr).2, fun i hi => ?_⟩
    have h := h.2 i hi
    unfold wpOp at h
    unfold wpOpIn
    split at h
    · rename_i ho; simp only [ho]; exact any_in hn fuel _ _ _ h
    · rename_i o ho
      simp only [ho]
      split at h
      · rename_i hw
        have hw' : Region.wanted o (yielded ops (⟨act.tmps, ds⟩ : Act).tmps) = true := hw
        rw [if_pos hw']
        rcases h with h | ⟨_, h⟩
        · exact wp_in (hn.imp id fun h => h o (by have := Array.mem_of_getElem? ho; simpa using this)) (fun a w h => ⟨any_dfr fuel _ a w h, any_in hn fuel _ a w h⟩) h
        · exact (QD_out h).elim
      · rename_i hw
        have hw' : ¬ Region.wanted o (yielded ops (⟨act.tmps, ds⟩ : Act).tmps) = true := hw
        rw [if_neg hw']
        refine ⟨fun _ _ => trivial, ?_⟩
        have := any_in (ds := ds) (k := k) hn fuel _ _ _ h
        rw [put_ds] at this
        exact this
end Go.Ax
noncomputable section
namespace Go.Ax
open Go.RowKit
set_option linter.unusedVariables false
set_option linter.unusedSimpArgs false
def noDfr (ops : List Oper) : Bool := ops.all fun o => !isDfr o
theorem noDfr_all {ops : List Oper} (h : noDfr ops = true) : ∀ o ∈ ops, ∀ c, o.op ≠ .defer c := fun o ho c e => by
  have := List.all_eq_true.1 h o ho
  unfold isDfr at this
  rw [e] at this
  cases this
def plainC : Code → Bool
  | .skip => true
  | .label _ => true
  | .region _ ops draw => noDfr ops.toList && (!draw || static ops (bm ops.toList []) (eager ops (bm ops.toList []) ops.size (List.range ops.size) 0))
  | .seq a b => plainC a && plainC b
  | .cond _ a b => plainC a && plainC b
  | .block _ c => plainC c
  | .exit _ => true
  | .ret => true
  | _ => false
section
variable {E : Env}
theorem stepO_dfr {callK : CallK} {n : Nat} {ops : Array Oper} {o : Oper} (hn : isDfr o = false) {f f' : Fr} {S S' : St} {e : Ex} (h : stepO E callK n ops o f S = .out e f' S') : f'.dfr = f.dfr := by
  have hput : ∀ {dst a S2}, putA n f dst a S2 = .out e f' S' → f'.dfr = f.dfr := fun {dst a S2} h => by
    unfold putA at h
    split at h
    · injection h with _ h; subst h; rfl
    · split at h
      · injection h with _ h; subst h; rfl
      · cases h
  unfold stepO at h
  split at h
  · cases h
  · exact hput h
  · split at h
    · exact hput h
    · exact hput h
    · split at h
      · exact hput h
      · injection h with _ h; subst h; rfl
      · cases h
    · rename_i he
      have := exec1_dfr he
      rw [hn] at this; cases this
    · injection h with _ h; subst h; rfl
    · cases h
theorem runL_dfr {callK : CallK} {n : Nat} {ops : Array Oper} : ∀ (l : List Oper), noDfr l = true → ∀ {f f' : Fr} {S S' : St} {e : Ex}, runL E callK n ops l f S = .out e f' S' → f'.dfr = f.dfr
  | [], _, f, f', S, S', e, h => by injection h with _ h; subst h; rfl
  | o :: rest, hn, f, f', S, S', e, h => by
    have hn1 : isDfr o = false := by have := List.all_eq_true.1 hn o (List.mem_cons_self ..); simpa using this
    have hn2 : noDfr rest = true := List.all_eq_true.2 fun x hx => List.all_eq_true.1 hn x (List.mem_cons_of_mem _ hx)
    unfold runL at h
    split at h
    · rename_i f1 S1 hs
      exact (runL_dfr rest hn2 h).trans (stepO_dfr hn1 hs)
    · exact stepO_dfr hn1 h
theorem drun_dfr {callK : CallK} {n : Nat} {ops : Array Oper} {ms : List Nat} {fb : Fr} : ∀ (l : List Nat) {f f' : Fr} {S S' : St} {L : List Look} {e : Ex}, fb.dfr = f.dfr → drun E callK n ops ms fb l f S L = .out e f' S' → f'.dfr = f.dfr
  | [], f, f', S, S', L, e, hb, h => by unfold drun at h; injection h with _ h; subst h; rfl
  | i :: r, f, f', S, S', L, e, hb, h => by
    have hp : ∀ (dst : Option Tmp) (a : AV), (putT f dst a).dfr = f.dfr := fun dst a => by cases dst <;> rfl
    unfold drun at h
    split at h
    · cases h
    · rename_i o ho
      split at h
      · split at h
        · split at h
          · exact (drun_dfr r (by rw [hp]; exact hb) h).trans (hp _ _)
          · cases h
        · cases h
      · split at h
        · split at h
          · exact (drun_dfr r (by rw [hp]; exact hb) h).trans (hp _ _)
          · cases h
        · injection h with _ h; subst h; exact hb
        · cases h
/-- A drawn region of known order: whatever order is drawn. -/
theorem drawnRun_any (hE : E.Ok) {base : Nat} {w0 : World} {Q : Exit → Act → World → Prop} {callK : CallK} (hC : CallOk E base w0 callK) {n : Nat} {ops : Array Oper} {γ : Gh} {S : St} {w : World} {f : Fr} {act : Act} (hS : SR base w0 γ S w) (ha : AR γ w n f act) (hg : GR γ w E.G)
    (hH : Holds base w0 n γ S w Q (drawnRun E callK n ops f S)) : wpAny E.P .any ops Q ops.size (Array.replicate ops.size false) act w.drew := by
  unfold drawnRun at hH
  simp only at hH
  split at hH
  · rename_i hst
    generalize bm ops.toList [] = ms at hst hH
    generalize eager ops ms ops.size (List.range ops.size) 0 = order at hst hH
    unfold static at hst
    simp only [Bool.and_eq_true] at hst
    obtain ⟨⟨⟨⟨s1, s2⟩, s3⟩, s4⟩, s5⟩ := hst
    obtain ⟨d1, d2⟩ := hS.drew
    have hx : Ext γ S w γ S w.drew := Ext.of_same (w := w) (w' := w.drew) rfl d2
    have hlist : ∀ (i : Nat) (b : Bool), i < ops.size → (Array.replicate ops.size false).getD i b = false := fun i b h => by simp [h]
    refine drawn_any hE hC s1 (fb := ⟨eraseT ops.toList f.tmps, f.dfr⟩) ops.size order (Array.replicate ops.size false) f S γ w.drew act (by simp) (fun i => ⟨fun hi => ?_, fun hi => ?_⟩) (nodupB_nodup s2) ?_ (fun i o ho hl => ?_) s5 d1 (ha.mono d2) (hg.mono d2) ⟨fun t a h => (eraseT_sub _ _ t a h).1, rfl, fun i o d ho hd => ?_⟩ (hH.later hx)
    · have := List.all_eq_true.1 s3 i hi
      have hlt : i < ops.size := by simpa using this
      exact ⟨hlt, hlist i true hlt⟩
    · have := List.all_eq_true.1 s4 i (List.mem_range.2 hi.1)
      simpa using this
    · have hsub : order ⊆ List.range ops.size := fun i hi => by
        have := List.all_eq_true.1 s3 i hi
        exact List.mem_range.2 (by simpa using this)
      have := (nodupB_nodup s2).length_le_of_subset hsub
      simpa using this
    · have hlt := (Array.getElem?_eq_some_iff.1 ho).1
      rw [hlist i false hlt] at hl
      cases hl
    · cases hx : (eraseT ops.toList f.tmps).get d with
      | none => rfl
      | some a =>
        have := (eraseT_sub _ _ d a hx).2 o (by
          have := Array.mem_of_getElem? ho
          simpa using this)
        exact absurd hd this
  · exact hH.elim
/-- What is asked of a run's end. -/
def LandsD (ds : List Deferred) (Q : Exit → Act → World → Prop) (tmps : Array Value) (w : World) : Ex → Prop
  | .normal => Q .normal ⟨tmps, ds⟩ w
  | .exit id => Q (.exit id) ⟨tmps, ds⟩ w
  | .ret => Q .ret ⟨tmps, ds⟩ w
  | .pan _ => False
def HD (base : Nat) (w0 : World) (n : Nat) (γ : Gh) (S : St) (w : World) (ds : List Deferred) (Q : Exit → Act → World → Prop) : O → Prop
  | .out e f' S' => f'.dfr = [] → ∀ γ' tmps' w', SR base w0 γ' S' w' → Ext γ S w γ' S' w' → FR γ' w' f'.tmps tmps' → tmps'.size = n → LandsD ds Q tmps' w' e
  | .fail => False
theorem HD.later {base : Nat} {w0 : World} {n : Nat} {γ γ1 : Gh} {S S1 : St} {w w1 : World} {ds : List Deferred} {Q : Exit → Act → World → Prop} {r : O} (e : Ext γ S w γ1 S1 w1) (h : HD base w0 n γ S w ds Q r) : HD base w0 n γ1 S1 w1 ds Q r := by
  cases r with
  | fail => exact h
  | out x f' S' => exact fun hd γ' t' w' h1 h2 h3 h4 => h hd γ' t' w' h1 (e.trans h2) h3 h4
theorem HD.holds {base : Nat} {w0 : World} {n : Nat} {γ : Gh} {S : St} {w : World} {ds : List Deferred} {Q : Exit → Act → World → Prop} {r : O} (hd : ∀ e f' S', r = .out e f' S' → f'.dfr = []) (h : HD base w0 n γ S w ds Q r) : Holds base w0 n γ S w (QD ds Q) r := by
  cases r with
  | fail => exact h
  | out x f' S' =>
    intro γ' act' w' h1 h2 h3
    have h0 := hd _ _ _ rfl
    have hdd : act'.defers = [] := DfrL.nil_inv (by have := h3.dfr; rwa [h0] at this)
    have := h h0 γ' act'.tmps w' h1 h2 h3.tmps h3.size
    cases x with
    | normal => exact ⟨hdd, this⟩
    | exit id => exact ⟨hdd, this⟩
    | ret => exact ⟨hdd, this⟩
    | pan a => exact False.elim this
theorem W_in (hE : E.Ok) (hI : IntrOk E) (hmix : E.P.follows .mixedOrders = true) {r : Option Nat} {k n : Nat} {base : Nat} {w0 : World} (ds : List Deferred) : ∀ (c : Code), plainC c = true → ∀ {t : T AV} {S : St} {R : O → Prop}, W E n c ⟨t, []⟩ S R →
    ∀ {Q : Exit → Act → World → Prop} {γ : Gh} {w : World} {tmps : Array Value}, SR base w0 γ S w → FR γ w t tmps → tmps.size = n → GR γ w E.G → (∀ r, R r → HD base w0 n γ S w ds Q r) → c.wpIn (FF r) k E.P Q ⟨tmps, ds⟩ w := by
  intro c
  induction c with
  | skip => intro _ t S R h Q γ w tmps hS hf hn hg hQ; unfold W at h; exact wpIn_skip (hQ _ h rfl γ tmps w hS (.refl _ _ _) hf hn)
  | label l => intro _ t S R h Q γ w tmps hS hf hn hg hQ; unfold W at h; exact wpIn_label (hQ _ h rfl γ tmps w hS (.refl _ _ _) hf hn)
  | exit id => intro _ t S R h Q γ w tmps hS hf hn hg hQ; unfold W at h; exact wpIn_exit (hQ _ h rfl γ tmps w hS (.refl _ _ _) hf hn)
  | ret => intro _ t S R h Q γ w tmps hS hf hn hg hQ; unfold W at h; exact wpIn_ret (hQ _ h rfl γ tmps w hS (.refl _ _ _) hf hn)
  | region id ops draw =>
    intro hp t S R h Q γ w tmps hS hf hn hg hQ
    unfold W at h
    unfold plainC at hp
    rw [Bool.and_eq_true] at hp
    have hnd := noDfr_all hp.1
    cases draw with
    | false =>
      obtain ⟨x, ⟨m0, hm⟩, hq⟩ := WL_sound h
      have hC : CallOk E base w0 (ckN E m0) := call_sound hE hI (drawnNew_ok hE hmix) m0 base w0
      refine wpIn_region_list (list_in _ (.inr hnd) ⟨tmps, []⟩ _ (runL_sound hE hC _ γ S w ⟨t, []⟩ ⟨tmps, []⟩ hS ⟨hf, hn, trivial⟩ hg ?_))
      refine HD.holds (fun e f' S' he => runL_dfr _ hp.1 he) ?_
      rw [hm m0 (Nat.le_refl _)]
      exact hQ _ hq
    | true =>
      obtain ⟨x, ⟨m0, hm⟩, hq⟩ := h
      have hst : static ops (bm ops.toList []) (eager ops (bm ops.toList []) ops.size (List.range ops.size) 0) = true := hp.2
      have h1 : flFind E.P ops = none := by unfold flFind; simp only [hst, if_true]
      have h1m : mkFind E.P ops = none := by unfold mkFind; simp only [hst, if_true]
      have h1n : mk2Find E.P ops = none := by unfold mk2Find; simp only [hst, if_true]
      have h1t : isTwo ops = false := by unfold isTwo; simp only [hst, if_true]
      have hm := hm m0 (Nat.le_refl _)
      have hx : drawnRun E (ckN E m0) n ops ⟨t, []⟩ S = x := by
        rw [← hm]
        unfold drawnNew
        rw [h1]
        simp only [h1m, h1n, h1t, Bool.false_eq_true, if_false]
      have hC : CallOk E base w0 (ckN E m0) := call_sound hE hI (drawnNew_ok hE hmix) m0 base w0
      refine wpIn_region_any hmix (any_in (.inr hnd) _ _ ⟨tmps, []⟩ _ (drawnRun_any hE hC hS ⟨hf, hn, trivial⟩ hg (f := ⟨t, []⟩) ?_))
      refine HD.holds (fun e f' S' he => ?_) ?_
      · unfold drawnRun at he
        simp only at he
        rw [if_pos hst] at he
        exact drun_dfr _ (fb := ⟨eraseT ops.toList t, []⟩) (f := ⟨t, []⟩) rfl he
      · rw [hx]; exact hQ _ hq
  | seq a b iha ihb =>
    intro hp t S R h Q γ w tmps hS hf hn hg hQ
    unfold W at h
    unfold plainC at hp
    rw [Bool.and_eq_true] at hp
    refine wpIn_seq (iha hp.1 h hS hf hn hg fun x hx => ?_)
    cases x with
    | fail => exact (hQ _ hx).elim
    | out e f' S' =>
      intro hd γ' t' w' h1 h2 h3 h4
      cases e with
      | normal =>
        obtain ⟨ft, fd⟩ := f'
        have hd : fd = [] := hd
        subst hd
        exact ihb hp.2 hx h1 h3 h4 (hg.mono h2.ev) (fun r hr => (hQ r hr).later h2)
      | exit id => exact hQ _ hx hd γ' t' w' h1 h2 h3 h4
      | ret => exact hQ _ hx hd γ' t' w' h1 h2 h3 h4
      | pan a => exact hQ _ hx hd γ' t' w' h1 h2 h3 h4
  | cond c x y ihx ihy =>
    intro hp t S R h Q γ w tmps hS hf hn hg hQ
    unfold W at h
    unfold plainC at hp
    rw [Bool.and_eq_true] at hp
    unfold condW at h
    split at h
    · rename_i hc
      have hv := evalO_sound (act := ⟨tmps, ds⟩) hf hg hc
      generalize hq : Act.eval ⟨tmps, ds⟩ c = q at hv
      cases hv
      exact wpIn_cond_true hq (ihx hp.1 h hS hf hn hg hQ)
    · rename_i hc
      have hv := evalO_sound (act := ⟨tmps, ds⟩) hf hg hc
      generalize hq : Act.eval ⟨tmps, ds⟩ c = q at hv
      cases hv
      exact wpIn_cond_false hq (ihy hp.2 h hS hf hn hg hQ)
    · exact h.elim
  | block id c ih =>
    intro hp t S R h Q γ w tmps hS hf hn hg hQ
    unfold W at h
    unfold plainC at hp
    refine wpIn_block (ih hp h hS hf hn hg fun x hx => ?_)
    cases x with
    | fail => exact (hQ _ hx).elim
    | out e f' S' =>
      intro hd γ' t' w' h1 h2 h3 h4
      cases e with
      | normal => exact hQ _ hx hd γ' t' w' h1 h2 h3 h4
      | exit id' =>
        show if id' = id then Q .normal ⟨t', ds⟩ w' else Q (.exit id') ⟨t', ds⟩ w'
        unfold blockW at hx
        simp only at hx
        split
        · rename_i he; rw [if_pos he] at hx; exact hQ _ hx hd γ' t' w' h1 h2 h3 h4
        · rename_i he; rw [if_neg he] at hx; exact hQ _ hx hd γ' t' w' h1 h2 h3 h4
      | ret => exact hQ _ hx hd γ' t' w' h1 h2 h3 h4
      | pan a => exact hQ _ hx hd γ' t' w' h1 h2 h3 h4
  | _ => intro hp; cases hp
end
end Go.Ax
