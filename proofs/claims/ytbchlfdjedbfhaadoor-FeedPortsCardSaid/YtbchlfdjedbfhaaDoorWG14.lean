/-
  feed: numbers, values, words.
-/
import Derived.Test.YtbchlfdjedbfhaaDoorWG13
set_option linter.unusedVariables false
set_option linter.unusedSimpArgs false
noncomputable section
namespace Go.Ax
open Go.RowKit Go.Proofs
set_option linter.unusedVariables false
set_option linter.unusedSimpArgs false
set_option maxRecDepth 100000
theorem neNil75b : neNil Tryd.prog 75 (.iface 132 (.ep [])) (.v .nilIface) = true := by kernel_rfl
theorem neNil75 : neNil Tryd.prog 75 (.v .nilIface) (.v .nilIface) = false := by kernel_rfl
def nilO (r : OR) (S : St) (x : Option AV) : OR := match x with
  | some (.v .nilIface) => .val (.v (.bool false)) S
  | _ => r
theorem eqOr75 (f : T AV) (S : St) (k : Nat) (dst : Option Tmp) (ty : TypeId) (pos : String) (af : Array Edge) (gd : Option (Nat × Bool)) :
    eqOr Tryd.prog gZ f S { dst := dst, op := .binOp .neq 75 (.tmp k) (.const .nilIface) 75, type := ty, pos := pos, after := af, guard := gd } .neq 75 (.v .nilIface) (.v .nilIface) =
    nilO (eqOrX Tryd.prog gZ f S { dst := dst, op := .binOp .neq 75 (.tmp k) (.const .nilIface) 75, type := ty, pos := pos, after := af, guard := gd } .neq 75 (.v .nilIface) (.v .nilIface)) S (f.get k) := by
  unfold nilO
  split
  · rename_i hf
    have h0 : fastEq Tryd.prog .neq 75 (.v .nilIface) (.v .nilIface) = none := by kernel_rfl
    unfold eqOr
    rw [h0]
    have hg : groundO gZ f (.tmp k) = some .nilIface := by unfold groundO; simp only [evalO, hf]; rfl
    have hc : groundO gZ f (.const .nilIface) = some .nilIface := rfl
    unfold ground
    simp only [Op.operands, List.all_cons, List.all_nil, hg, hc, Option.isSome_some, Bool.and_self, if_true]
    have e : execOp (fun x => (groundO gZ f x).getD undef) { dst := dst, op := .binOp .neq 75 (.tmp k) (.const .nilIface) 75, type := ty, pos := pos, after := af, guard := gd } = execOp (fun _ => .nilIface) { dst := none, op := .binOp .neq 75 (.tmp 29) (.const .nilIface) 75, type := 4, pos := "", after := #[], guard := none } := by
      simp only [execOp, hg, hc, Option.getD_some]
      rfl
    rw [e]
    have e3 : (pureN Tryd.prog 4000 (execOp (fun _ => Value.nilIface) { dst := none, op := .binOp .neq 75 (.tmp 29) (.const .nilIface) 75, type := 4, pos := "", after := #[], guard := none })) = some (.bool false) := by kernel_rfl
    rw [e3]; rfl
  · rfl
theorem nilO_nil (r : OR) (S : St) : nilO r S (some (.v .nilIface)) = .val (.v (.bool false)) S := rfl
theorem fbNil : fastBin .neq (.v .nilIface) (.v .nilIface) = none := rfl
theorem number_k2 (l : List UInt8) (hl : l.length ≤ 100000) : KnZ 47 [strS l] := by
  refine bodyZ Tryd.f47 (by kernel_rfl) (by kernel_rfl) (show (_ : Nat) ≤ _ from by show (_ : Nat) ≤ _; simp [Tryd.f47]) ?_
  obtain ⟨fn1, hf1⟩ := fnz_55
  obtain ⟨fn2, hf2⟩ := fnz_56
  have fin : ∀ (x y : Int) (S' : St), (numF l).1 = x → ((numF l).2 : Int) = y → ∃ a S'', R.ret (.tup [.v (.int .i64 x), .v (.int .i64 y)]) S' = R.ret a S'' ∧ freeV a = true ∧ SpecZ 47 [strS l] (clean a) := fun x y S' h1 h2 => by
    refine ⟨_, _, rfl, rfl, ?_⟩
    intro l' e _
    simp only [List.cons.injEq, and_true] at e
    rw [← str_inj e, h1, h2]
    rfl
  unfold strS
  simp (maxSteps := 2000000) (disch := omega) only [W_region, W_seq, seqQ_normal2, WL_nil2, WL_cons, execL_val2, execL_enter2, putL_some2, wantedA, exec1, evalO, initT, T.get_set, T.get_leaf, callA, mapO, ofOpt, ofConst, Nat.reduceLT, Nat.reduceEqDiff, if_true, if_false, true_and, Option.getD_some, List.nil_append, List.append_nil, Tryd.f47, hf1]
  refine tens_u hl ?_
  by_cases h1 : (numF l).2 = 1
  · have e1 : decide ((numF l).2 ≠ 1) = false := by rw [decide_eq_false_iff_not]; omega
    have hx : (numF l).1 = 0 := by
      unfold numF at h1 ⊢
      simp only at h1 ⊢
      generalize (if l.head? = some 45 then l.drop 1 else l) = t at h1 ⊢
      by_cases g1 : t = [] ∨ (t.head? = some 48 ∧ l ≠ [48])
      · rw [if_pos g1]
      · rw [if_neg g1] at h1 ⊢
        by_cases g2 : t.all digB = false
        · rw [if_pos g2]
        · rw [if_neg g2] at h1 ⊢
          exfalso
          by_cases g3 : l.head? = some 45
          · rw [if_pos g3] at h1; split at h1 <;> cases h1
          · rw [if_neg g3] at h1; split at h1 <;> cases h1
    simp (maxSteps := 2000000) (disch := omega) only [W_skip, W_region, W_seq, W_cond, W_ret, seqQ_normal2, seqQ_ret2, WL_nil2, WL_cons, execL_val2, putL_some2, retL_ret2, condW_t2, wantedA, exec1, evalO, T.get_set, T.get_leaf, callA, mapO, ofOpt, ofConst, finW_ret, giveW, resultsA, tupA, notO_bool, Nat.reduceLT, Nat.reduceEqDiff, if_true, if_false, true_and, List.nil_append, List.append_nil, Bool.not_false, ez_P, ez_G, ez_F, gnot, e1]
    exact fin 0 1 _ hx (by rw [h1]; rfl)
  · have e1 : decide ((numF l).2 ≠ 1) = true := decide_eq_true h1
    simp (maxSteps := 2000000) (disch := omega) only [W_skip, W_region, W_seq, W_cond, W_ret, seqQ_normal2, seqQ_ret2, WL_nil2, WL_cons, execL_val2, execL_enter2, putL_some2, retL_ret2, condW_f2, wantedA, exec1, evalO, T.get_set, T.get_leaf, callA, mapO, ofOpt, ofConst, finW_ret, giveW, resultsA, tupA, notO_bool, Nat.reduceLT, Nat.reduceEqDiff, if_true, if_false, true_and, List.nil_append, List.append_nil, Bool.not_true, ez_P, ez_G, gnot, e1, hf2]
    refine pint_u hl (fun h0 => ?_) (fun h3 => ?_) h1
    · unfold i64A
      simp (maxSteps := 2000000) (disch := omega) only [W_skip, W_region, W_seq, W_cond, W_ret, seqQ_normal2, seqQ_ret2, WL_nil2, WL_cons, execL_val2, putL_some2, retL_ret2, condW_f2, wantedA, exec1, evalO, T.get_set, T.get_leaf, ofOpt, ofConst, finW_ret, giveW, resultsA, tupA, Nat.reduceLT, Nat.reduceEqDiff, if_true, if_false, true_and, List.getElem?_cons_succ, List.getElem?_cons_zero, Bool.false_eq_true, oExtract, ez_P, ez_G, neNil75, eqOr75, nilO_nil, fbNil, oExtract]
      exact fin _ 0 _ rfl (by rw [h0]; rfl)
    · unfold i64A
      have hx : (numF l).1 = 0 := by
        unfold numF at h3 ⊢
        simp only at h3 ⊢
        generalize (if l.head? = some 45 then l.drop 1 else l) = t at h3 ⊢
        by_cases g1 : t = [] ∨ (t.head? = some 48 ∧ l ≠ [48])
        · rw [if_pos g1]
        · rw [if_neg g1] at h3 ⊢
          by_cases g2 : t.all digB = false
          · rw [if_pos g2]
          · rw [if_neg g2] at h3 ⊢
            by_cases g3 : l.head? = some 45
            · rw [if_pos g3] at h3 ⊢
              split at h3
              · cases h3
              · rename_i g4; rw [if_neg g4]
            · rw [if_neg g3] at h3 ⊢
              split at h3
              · cases h3
              · rename_i g4; rw [if_neg g4]
      simp (maxSteps := 2000000) (disch := omega) only [W_skip, W_region, W_seq, W_cond, W_ret, seqQ_normal2, seqQ_ret2, WL_nil2, WL_cons, execL_val2, putL_some2, retL_ret2, condW_t2, wantedA, exec1, evalO, T.get_set, T.get_leaf, ofOpt, ofConst, finW_ret, giveW, resultsA, tupA, Nat.reduceLT, Nat.reduceEqDiff, if_true, if_false, true_and, List.getElem?_cons_succ, List.getElem?_cons_zero, oExtract, ez_P, ez_G, neNil75b, oExtract]
      exact fin 0 3 _ hx (by rw [h3]; rfl)
theorem number_u2 {l : List UInt8} {S : St} {Q : R → Prop} (hl : l.length ≤ 100000) (h : Q (.ret (.tup [i64A (numF l).1, i64A (numF l).2]) S)) : WC EZ 47 [strS l] S Q :=
  callZ (number_k2 l hl) (by kernel_rfl) rfl rfl fun a _ _ hs => by
    have := hs l rfl hl
    subst this
    exact h
theorem fnz_33 : ∃ fn, EZ.F 33 = some fn := Option.isSome_iff_exists.1 (by kernel_rfl)
theorem fnz_24 : ∃ fn, EZ.F 24 = some fn := Option.isSome_iff_exists.1 (by kernel_rfl)
theorem yfO_2 (p k : Nat) : oFieldAddr Tryd.prog 56 (.ptr p k) 2 = some (.ptr p (k + 2)) := by kernel_rfl
theorem yfT_0 (p k : Nat) : oFieldAddr Tryd.prog 54 (.ptr p k) 0 = some (.ptr p (k + 0)) := by kernel_rfl
theorem dval_k (t : Bool) (l : List UInt8) (hl : l.length ≤ 100000) : KnZ 33 [declT t, strS l] := by
  refine bodyZ Tryd.f33 (by kernel_rfl) (by kernel_rfl) (show (_ : Nat) ≤ _ from by show (_ : Nat) ≤ _; simp [Tryd.f33]) ?_
  obtain ⟨fn1, hf1⟩ := fnz_46
  obtain ⟨fn2, hf2⟩ := fnz_47
  have fin : ∀ (x y : Int) (S' : St), (valF l t).1 = x → ((valF l t).2 : Int) = y → ∃ a S'', R.ret (.tup [.v (.int .i64 x), .v (.int .i64 y)]) S' = R.ret a S'' ∧ freeV a = true ∧ SpecZ 33 [declT t, strS l] (clean a) := fun x y S' h1 h2 => by
    refine ⟨_, _, rfl, rfl, ?_⟩
    intro t' l' e _
    simp only [List.cons.injEq, and_true, declT, AV.agg.injEq, AV.v.injEq, Value.bool.injEq, true_and] at e
    rw [← str_inj e.2, ← e.1, h1, h2]
    rfl
  unfold strS declT strS
  cases t with
  | true =>
    simp (maxSteps := 2000000) (disch := omega) only [W_skip, W_region, W_seq, W_cond, seqQ_normal2, WL_nil2, WL_cons, execL_val2, execL_enter2, putL_some2, condW_t2, wantedA, exec1, evalO, initT, T.get_set, T.get_leaf, callA, mapO, ofOpt, ofConst, Nat.reduceLT, Nat.reduceEqDiff, if_true, if_false, true_and, Option.getD_some, List.getElem?_cons_succ, List.getElem?_cons_zero, List.nil_append, List.append_nil, nb_get, st0_get, st0_next, cl1_box, Nat.zero_add, Nat.add_zero, noTup_agg, cells_agg, ez_P, cells_agg, Tryd.f33, yfO_2, yfT_0, yl4, hf1, hf2]
    refine truth_u hl ?_
    unfold i64A
    simp (maxSteps := 2000000) (disch := omega) only [W_ret, seqQ_normal2, seqQ_ret2, WL_nil2, WL_cons, execL_val2, putL_some2, retL_ret2, wantedA, exec1, evalO, T.get_set, T.get_leaf, ofOpt, finW_ret, giveW, resultsA, tupA, Nat.reduceLT, Nat.reduceEqDiff, if_true, if_false, true_and, List.getElem?_cons_succ, List.getElem?_cons_zero, oExtract, oExtract]
    exact fin _ _ _ rfl rfl
  | false =>
    simp (maxSteps := 2000000) (disch := omega) only [W_skip, W_region, W_seq, W_cond, seqQ_normal2, WL_nil2, WL_cons, execL_val2, execL_enter2, putL_some2, condW_f2, wantedA, exec1, evalO, initT, T.get_set, T.get_leaf, callA, mapO, ofOpt, ofConst, Nat.reduceLT, Nat.reduceEqDiff, if_true, if_false, true_and, Option.getD_some, List.getElem?_cons_succ, List.getElem?_cons_zero, List.nil_append, List.append_nil, nb_get, st0_get, st0_next, cl1_box, Nat.zero_add, Nat.add_zero, noTup_agg, cells_agg, ez_P, cells_agg, Tryd.f33, yfO_2, yfT_0, yl4, hf1, hf2]
    refine number_u2 hl ?_
    unfold i64A
    simp (maxSteps := 2000000) (disch := omega) only [W_ret, seqQ_normal2, WL_nil2, WL_cons, execL_val2, putL_some2, retL_ret2, wantedA, exec1, evalO, T.get_set, T.get_leaf, ofOpt, finW_ret, giveW, resultsA, tupA, Nat.reduceLT, Nat.reduceEqDiff, if_true, if_false, true_and, List.getElem?_cons_succ, List.getElem?_cons_zero, oExtract, oExtract]
    exact fin _ _ _ rfl rfl
theorem decl_inj {t u : Bool} (h : declT t = declT u) : t = u := by
  simp only [declT, AV.agg.injEq, List.cons.injEq, AV.v.injEq, Value.bool.injEq, and_true, true_and] at h
  exact h
theorem dval_u {t : Bool} {l : List UInt8} {S : St} {Q : R → Prop} (hl : l.length ≤ 100000) (h : Q (.ret (.tup [i64A (valF l t).1, i64A (valF l t).2]) S)) : WC EZ 33 [declT t, strS l] S Q :=
  callZ (dval_k t l hl) (by kernel_rfl) rfl rfl fun a _ _ hs => by
    have := hs t l rfl hl
    subst this
    exact h
theorem fmt_u {n : Int} {S : St} {Q : R → Prop} (h0 : -9223372036854775808 ≤ n) (h1 : n ≤ 9223372036854775807) (h : Q (.ret (strS (Lib.itoa n)) S)) : WC EZ 36 [i64A n, i64A 10] S Q :=
  callZ (knFmt n h0 h1) (by kernel_rfl) rfl rfl fun a _ _ hs => by
    have := hs n rfl h0 h1
    subst this
    exact h
theorem word_k (nm at_ fu ck off : AV) (hfr : freeL [nm, at_, fu, ck, off] = true) (hon : nm.one = true ∧ at_.one = true ∧ fu.one = true ∧ ck.one = true ∧ off.one = true) (t : Bool) (x : Int) (h0 : -9223372036854775808 ≤ x) (h1 : x ≤ 9223372036854775807) : KnZ 24 [.agg [nm, at_, .v (.bool t), fu, ck, off], i64A x] := by
  refine bodyZ Tryd.f24 (by kernel_rfl) (by kernel_rfl) (show (_ : Nat) ≤ _ from by show (_ : Nat) ≤ _; simp [Tryd.f24]) ?_
  obtain ⟨fn1, hf1⟩ := fnz_35
  obtain ⟨fn2, hf2⟩ := fnz_36
  have fin : ∀ (w : List UInt8) (S' : St), wordF x t = w → ∃ a S'', R.ret (.v (.string ⟨⟨w⟩⟩)) S' = R.ret a S'' ∧ freeV a = true ∧ SpecZ 24 [.agg [nm, at_, .v (.bool t), fu, ck, off], i64A x] (clean a) := fun w S' hw => by
    refine ⟨_, _, rfl, rfl, ?_⟩
    intro d t' x' e hd _ _
    simp only [List.cons.injEq, and_true, i64A, AV.v.injEq, Value.int.injEq, true_and] at e
    obtain ⟨nm', at', fu', ck', off', rfl⟩ := hd
    have e1 := e.1
    simp only [AV.agg.injEq, List.cons.injEq, AV.v.injEq, Value.bool.injEq, and_true] at e1
    rw [← e.2, ← e1.2.2.1, hw]
    rfl
  unfold i64A
  cases t with
  | true =>
    simp (maxSteps := 2000000) (disch := omega) only [W_skip, W_region, W_seq, W_cond, seqQ_normal2, WL_nil2, WL_cons, execL_val2, execL_enter2, putL_some2, condW_t2, wantedA, exec1, evalO, initT, T.get_set, T.get_leaf, callA, mapO, ofOpt, ofConst, fb_neqI, Nat.reduceLT, Nat.reduceEqDiff, if_true, if_false, true_and, Option.getD_some, List.getElem?_cons_succ, List.getElem?_cons_zero, List.nil_append, List.append_nil, Bool.false_eq_true, nb_get, st0_get, st0_next, cl1_box, Nat.zero_add, Nat.add_zero, noTup_agg, cells_agg, ez_P, neNil2, cells_agg, Tryd.f24, yfO_2, yfT_0, yl4, hf1, hf2]
    refine fb_u ?_
    unfold strS
    by_cases hx : x = 0
    · have e0 : (x != 0) = false := by rw [hx]; rfl
      rw [e0]
      simp (maxSteps := 2000000) (disch := omega) only [W_ret, seqQ_normal2, seqQ_ret2, WL_nil2, WL_cons, execL_val2, putL_some2, retL_ret2, wantedA, exec1, evalO, T.get_set, T.get_leaf, ofOpt, finW_ret, giveW, resultsA, tupA, Nat.reduceLT, Nat.reduceEqDiff, if_true, if_false, true_and, Bool.false_eq_true]
      exact fin _ _ (by unfold wordF; rw [if_pos rfl, if_pos hx])
    · have e0 : (x != 0) = true := by rw [bne_iff_ne]; exact hx
      rw [e0]
      simp (maxSteps := 2000000) (disch := omega) only [W_ret, seqQ_normal2, seqQ_ret2, WL_nil2, WL_cons, execL_val2, putL_some2, retL_ret2, wantedA, exec1, evalO, T.get_set, T.get_leaf, ofOpt, finW_ret, giveW, resultsA, tupA, Nat.reduceLT, Nat.reduceEqDiff, if_true, if_false, true_and]
      exact fin _ _ (by unfold wordF; rw [if_pos rfl, if_neg hx])
  | false =>
    simp (maxSteps := 2000000) (disch := omega) only [W_skip, W_region, W_seq, W_cond, seqQ_normal2, WL_nil2, WL_cons, execL_val2, execL_enter2, putL_some2, condW_f2, wantedA, exec1, evalO, initT, T.get_set, T.get_leaf, callA, mapO, ofOpt, ofConst, fb_neqI, Nat.reduceLT, Nat.reduceEqDiff, if_true, if_false, true_and, Option.getD_some, List.getElem?_cons_succ, List.getElem?_cons_zero, List.nil_append, List.append_nil, Bool.false_eq_true, nb_get, st0_get, st0_next, cl1_box, Nat.zero_add, Nat.add_zero, noTup_agg, cells_agg, ez_P, neNil2, cells_agg, Tryd.f24, yfO_2, yfT_0, yl4, hf1, hf2]
    refine fmt_u h0 h1 ?_
    unfold strS
    simp (maxSteps := 2000000) (disch := omega) only [W_ret, seqQ_normal2, WL_nil2, WL_cons, execL_val2, putL_some2, retL_ret2, wantedA, exec1, evalO, T.get_set, T.get_leaf, ofOpt, finW_ret, giveW, resultsA, tupA, Nat.reduceLT, Nat.reduceEqDiff, if_true, if_false, true_and]
    exact fin _ _ (by unfold wordF; rfl)
end Go.Ax
noncomputable section
namespace Go.Ax
open Go.RowKit Go.Proofs
set_option linter.unusedVariables false
set_option linter.unusedSimpArgs false
set_option maxRecDepth 100000
/-- What a function answers at its end. -/
def EndOk (fn : Func) (a : AV) (t : T AV) (S : St) : Prop := ∃ l, resultsA EZ t S fn.results.toList = some l ∧ freeV (tupA l) = true ∧ clean (tupA l) = a
theorem end_pure {fn : Func} {a : AV} {w : World} {im : Nat → Nat → Prop} {γ : Gh} {S : St} {w' : World} {t : T AV} {tmps : Array Value} (hS : SR w.heap.size w γ S w') (hi : ImB w.heap.size γ im) (hf : FR γ w' t tmps) (h : EndOk fn a t S) : ∃ v, (results fn tmps).run Tryd.prog w' = .ok v w' ∧ PureQ w im a (.returned v) w' := by
  obtain ⟨l, h1, h2, h3⟩ := h
  obtain ⟨v, hv, hr⟩ := results_run (E := EZ) hS hf h1
  refine ⟨v, hv, v, γ, rfl, hS.below, hS.imc, hi, fun γ2 h => ?_⟩
  have := hr.clean h h2
  rw [h3] at this
  exact this
/-- It ends there, without marks. -/
theorem end_plain {fn : Func} {a : AV} {w : World} {im : Nat → Nat → Prop} {γ : Gh} {S : St} {w' : World} {t : T AV} {tmps : Array Value} (hS : SR w.heap.size w γ S w') (hi : ImB w.heap.size γ im) (hf : FR γ w' t tmps) (h : EndOk fn a t S) : bodyPostM (FF none) 0 Tryd.prog fn (PureQ w im a) .ret ⟨tmps, []⟩ w' := by
  obtain ⟨v, h1, h2⟩ := end_pure hS hi hf h
  exact ⟨v, h1, h2⟩
/-- It ends there, behind a range. -/
theorem end_mark {fn : Func} {a : AV} {w : World} {im : Nat → Nat → Prop} {γ : Gh} {S : St} {w' : World} {t : T AV} {tmps : Array Value} {D : Nat} (hS : SR w.heap.size w γ S w') (hi : ImB w.heap.size γ im) (hf : FR γ w' t tmps) (hD : Odd w.heap.size γ S w' D (.deferred (some []))) (h : EndOk fn a t S) :
    bodyPostM (FF none) 0 Tryd.prog fn (PureQ w im a) .ret ⟨tmps, [{ target := .collected D, args := #[] }]⟩ w' := by
  obtain ⟨s2, e2⟩ := hS.put hD rfl (.deferred none) rfl
  obtain ⟨v, h1, h2⟩ := end_pure s2 hi (hf.mono e2) h
  exact ⟨by simp, .inl ⟨D, _, rfl, run_takeDeferred hD.at_, ⟨v, h1, h2⟩⟩⟩
/-- From the body to the function. -/
theorem kn_body {k : FuncId} {fn : Func} {c : Code} {args : List AV} {a : AV} (hf : Tryd.prog.funcs[k]? = some fn) (hb : fn.body = some c) (hl : args.length ≤ fn.ntmps) (h1 : freeV a = true) (h2 : clean a = a) (h3 : SpecZ k args a)
    (h : ∀ (w : World) (im : Nat → Nat → Prop) (tmps : Array Value), SR w.heap.size w ⟨fun _ => none, im⟩ St0 w → GR ⟨fun _ => none, im⟩ w gZ → FR ⟨fun _ => none, im⟩ w (initT args 0) tmps → tmps.size = fn.ntmps → c.wpIn (FF none) 0 Tryd.prog (bodyPostM (FF none) 0 Tryd.prog fn (PureQ w im a)) ⟨tmps, []⟩ w) : KnZ k args := by
  refine ⟨a, h1, h2, fun w im him hg vs hv => ?_, h3⟩
  have hS0 : SR w.heap.size w ⟨fun _ => none, im⟩ St0 w := ⟨.refl _ _, Nat.le_refl _, him, fun _ _ => ⟨rfl, rfl⟩, Nat.le_refl _, fun _ _ _ h => (by cases h), fun _ _ h => (by cases h), fun _ _ _ _ _ _ _ h => (by cases h)⟩
  have hvl := hv.1
  refine (callsIn_wide (n := 0)).1 (callsIn_of_wp_marks (F := FF none) hf hb trivial (h w im _ hS0 hg (initT_FR hv fn.ntmps) (by simp; omega)))
theorem imb_start (w : World) (im : Nat → Nat → Prop) : ImB w.heap.size ⟨fun _ => none, im⟩ im := fun _ _ _ h => h
end Go.Ax
noncomputable section
namespace Go.Ax
open Go.RowKit Go.Proofs
set_option linter.unusedVariables false
set_option linter.unusedSimpArgs false
set_option maxRecDepth 100000
theorem yg42' : isAggT Tryd.prog 42 = some false := by kernel_rfl
theorem yg28' : isAggT Tryd.prog 28 = some false := by kernel_rfl
theorem yg31' : isAggT Tryd.prog 31 = some false := by kernel_rfl
theorem yz42' : sizeT Tryd.prog 42 = some 1 := by kernel_rfl
theorem yz28' : sizeT Tryd.prog 28 = some 1 := by kernel_rfl
theorem yl42 (S : St) (p k : Nat) : oLoad Tryd.prog S 42 (.ptr p k) = cl1 (S.mem.get p) k := vldS yg42' S p k
theorem yl28 (S : St) (p k : Nat) : oLoad Tryd.prog S 28 (.ptr p k) = cl1 (S.mem.get p) k := vldS yg28' S p k
theorem yl31 (S : St) (p k : Nat) : oLoad Tryd.prog S 31 (.ptr p k) = cl1 (S.mem.get p) k := vldS yg31' S p k
theorem ys42 (S : St) (p k : Nat) (v : AV) : oStore Tryd.prog S 42 (.ptr p k) v = vstB S (S.mem.get p) p k v 1 := vstG yz42' S p k v
theorem ys28 (S : St) (p k : Nat) (v : AV) : oStore Tryd.prog S 28 (.ptr p k) v = vstB S (S.mem.get p) p k v 1 := vstG yz28' S p k v
theorem ya42 (S : St) : oAlloc Tryd.prog S 42 = some (.ptr S.next 0, S.newBox [.nils]) := by kernel_rfl
theorem ya28 (S : St) : oAlloc Tryd.prog S 28 = some (.ptr S.next 0, S.newBox [.v (.int .i64 0)]) := by kernel_rfl
theorem yz56' : sizeT Tryd.prog 56 = some 6 := by kernel_rfl
theorem yg56' : isAggT Tryd.prog 56 = some true := by kernel_rfl
theorem yle56 (S : St) (t : Bool) : oLoad Tryd.prog S 56 (.ep (declT t).cells) = some (declT t) := vldGE yg56' yz56' S _
/-- A row of no cells, with room. -/
def mkS (S : St) : St := ⟨S.next + 1, S.mem.set S.next (some (.tip 0))⟩
theorem mk_get (S : St) (id : Nat) : (mkS S).mem.get id = if id = S.next then some (.tip 0) else S.mem.get id := T.get_set _ _ _ _
theorem mk_next (S : St) : (mkS S).next = S.next + 1 := rfl
theorem make_I (S : St) (n : Nat) (h : n ≤ 1000) : oMake Tryd.prog S 42 (.v (.int .i64 0)) (.v (.int .i64 (n : Int))) = some (.sl S.next 0 1 [], mkS S) := by
  obtain ⟨i, hi⟩ : ∃ i, Tryd.prog.info? 2 = some i := Option.isSome_iff_exists.1 (by kernel_rfl)
  have h2 : (Tryd.prog.info? 2).map (fun i => (i.zero, i.size, decide (i.bytes ≤ 1000))) = some (some (.int .i64 0), 1, true) := by kernel_rfl
  rw [hi] at h2
  simp only [Option.map_some, Option.some.injEq, Prod.mk.injEq, decide_eq_true_eq] at h2
  obtain ⟨z1, z2, z3⟩ := h2
  unfold oMake
  rw [yuI]
  simp only [hi, z1]
  have h4 : ofConst 8 (.int .i64 0) = some (.v (.int .i64 0)) := rfl
  simp only [h4]
  have hb : (i.bytes : Int) * (n : Int) ≤ 281474976710656 := by
    have : i.bytes * n ≤ 1000 * 1000 := Nat.mul_le_mul z3 h
    have h5 : ((i.bytes * n : Nat) : Int) ≤ 1000000 := by omega
    rw [Int.natCast_mul] at h5
    omega
  rw [if_pos ⟨Int.le_refl _, by omega, hb, by omega, rfl, by rw [z2]; rfl, by rw [z2]; decide⟩, if_pos trivial, z2]
  rfl
def combR (acc : List Int) (x : List Int × Nat) : List Int × Nat := if x.2 = 0 then (acc ++ x.1, 0) else ([], x.2)
theorem rows_shape : ∀ (ts : List Bool) (ws : List (List UInt8)), (rowsF ts ws).2 ≠ 0 → (rowsF ts ws).1 = []
  | [], [], h => absurd rfl h
  | _ :: _, [], _ => rfl
  | [], _ :: _, _ => rfl
  | t :: ts, w :: ws, h => by
    rw [rowsF] at h ⊢
    split
    · rename_i h1
      rw [if_pos h1] at h
      split
      · rename_i h2; rw [if_pos h2] at h; exact absurd rfl h
      · rfl
    · rfl
theorem combR_nil (x : List Int × Nat) (h : x.2 ≠ 0 → x.1 = []) : combR [] x = x := by
  unfold combR
  split
  · rename_i h1; exact Prod.ext rfl h1.symm
  · rename_i h1; exact Prod.ext (h h1).symm rfl
theorem combR_go {t : Bool} {ts : List Bool} {w : List UInt8} {ws : List (List UInt8)} (acc : List Int) (h : (valF w t).2 = 0) : combR acc (rowsF (t :: ts) (w :: ws)) = combR (acc ++ [(valF w t).1]) (rowsF ts ws) := by
  rw [rowsF, if_pos h]
  unfold combR
  by_cases h2 : (rowsF ts ws).2 = 0
  · rw [if_pos h2, if_pos rfl, if_pos h2, List.append_assoc]; rfl
  · rw [if_neg h2, if_neg h2, if_neg h2]
theorem combR_bad {t : Bool} {ts : List Bool} {w : List UInt8} {ws : List (List UInt8)} (acc : List Int) (h : (valF w t).2 ≠ 0) : combR acc (rowsF (t :: ts) (w :: ws)) = ([], (valF w t).2) := by
  rw [rowsF, if_neg h]
  unfold combR
  rw [if_neg h]
/-- Between the words of a line. -/
structure RowI (bs : List Bool) (l : List UInt8) (xs : List (List UInt8)) (S : St) : Prop where
  ex : ∃ (acc : List Int) (tk : Nat), RowO 1 S tk (acc.map i64A) ∧ tk ≠ 1 ∧ S.mem.get 6 = some (.box [.sl tk 0 1 (acc.map i64A)]) ∧ acc.length ≤ bs.length ∧ rowsF bs (splitB 32 l) = combR acc (rowsF (bs.drop acc.length) xs)
  m2 : S.mem.get 2 = some (.box [.sl 0 0 6 (bs.map declT)])
  m3 : S.mem.get 3 = some (.box [.nils])
  m4 : S.mem.get 4 = some (.box [.v (.int .i64 0)])
  m7 : ∃ b7, S.mem.get 7 = some (.box b7)
  m8 : ∃ b7, S.mem.get 8 = some (.box b7)
  m9 : ∃ b7, S.mem.get 9 = some (.box b7)
  few : ∀ x ∈ xs, x.length ≤ 100000
  nx : 10 ≤ S.next
def RowX (bs : List Bool) (l : List UInt8) (S : St) : Prop := S.mem.get 3 = some (.box [.nils]) ∧ ∃ e : Nat, S.mem.get 4 = some (.box [.v (.int .i64 ((e : Nat) : Int))]) ∧ e ≠ 0 ∧ rowsF bs (splitB 32 l) = ([], e)
theorem RowI.st {bs : List Bool} {l : List UInt8} {xs : List (List UInt8)} {S : St} (h : RowI bs l xs S) (cs : List AV) : RowI bs l xs (S.to 7 cs) := by
  obtain ⟨acc, tk, h1, h2, h3, h4, h5⟩ := h.ex
  obtain ⟨b7, hb⟩ := h.m7
  have ht : tk ≠ 7 := fun e => by
    rcases h1 with h1 | ⟨_, _, h1⟩
    · exact h2 h1
    · rw [e, hb] at h1; cases h1
  refine ⟨⟨acc, tk, h1.keep (Nat.le_refl _) (fun _ _ => by rw [to_get, if_neg ht]), h2, by rw [to_get, if_neg (by decide)]; exact h3, h4, h5⟩, ?_, ?_, ?_, ⟨cs, by rw [to_get, if_pos rfl]⟩, by rw [to_get, if_neg (by decide)]; exact h.m8, by rw [to_get, if_neg (by decide)]; exact h.m9, h.few, h.nx⟩
  · rw [to_get, if_neg (by decide)]; exact h.m2
  · rw [to_get, if_neg (by decide)]; exact h.m3
  · rw [to_get, if_neg (by decide)]; exact h.m4
def ro0 : Code := match Tryd.f21.body with
  | some (.seq a _) => a
  | _ => .skip
def ro1 : Code := match Tryd.f21.body with
  | some (.seq _ (.seq a _)) => a
  | _ => .skip
def ro5 : Code := match Tryd.f21.body with
  | some (.seq _ (.seq _ (.seq a _))) => a
  | _ => .skip
def ro6 : Code := match Tryd.f21.body with
  | some (.seq _ (.seq _ (.seq _ (.seq (.seq a _) _)))) => a
  | _ => .skip
def roA : Code := match Tryd.f21.body with
  | some (.seq _ (.seq _ (.seq _ (.seq (.seq _ (.block _ (.rangeFunc _ _ a _))) _)))) => a
  | _ => .skip
def roB : Code := match Tryd.f21.body with
  | some (.seq _ (.seq _ (.seq _ (.seq (.seq _ (.block _ (.rangeFunc _ _ _ a))) _)))) => a
  | _ => .skip
def roZ : Code := match Tryd.f21.body with
  | some (.seq _ (.seq _ (.seq _ (.seq _ a)))) => a
  | _ => .skip
theorem ro_is : Tryd.f21.body = some (.seq ro0 (.seq ro1 (.seq ro5 (.seq (.seq ro6 (.block 0 (.rangeFunc (.tmp 19) #[20] roA roB))) roZ)))) := by kernel_rfl
theorem ro_plain : plainC ro0 = true ∧ plainC ro1 = true ∧ plainC ro5 = true ∧ plainC ro6 = true ∧ plainC roA = true ∧ plainC roB = true ∧ plainC roZ = true := ⟨by kernel_rfl, by kernel_rfl, by kernel_rfl, by kernel_rfl, by kernel_rfl, by kernel_rfl, by kernel_rfl⟩
theorem ro_nt : Tryd.f21.ntmps = 49 := by kernel_rfl
end Go.Ax
noncomputable section
namespace Go.Ax
open Go.RowKit Go.Proofs
set_option linter.unusedVariables false
set_option linter.unusedSimpArgs false
set_option maxRecDepth 100000
theorem ro0_w {bs : List Bool} {l : List UInt8} : W EZ 49 ro0 ⟨initT [.sl 0 0 6 (bs.map declT), strS l] 0, []⟩ St0 (fun r => ∃ t' S', r = .out .normal ⟨t', []⟩ S' ∧ t'.get 1 = some (strS l) ∧ t'.get 2 = some (.ptr 2 0) ∧ t'.get 4 = some (.ptr 3 0) ∧ t'.get 5 = some (.ptr 4 0) ∧ S'.next = 5 ∧ S'.mem.get 2 = some (.box [.sl 0 0 6 (bs.map declT)]) ∧ S'.mem.get 3 = some (.box [.nils]) ∧ S'.mem.get 4 = some (.box [.v (.int .i64 0)])) := by
  simp (maxSteps := 2000000) (disch := omega) only [W_region, WL_nil2, WL_cons, execL_val2, putL_some2, wantedA, exec1, evalO, initT, T.get_set, T.get_leaf, ofOptS, Nat.reduceLT, Nat.reduceAdd, Nat.reduceEqDiff, if_true, if_false, true_and, nb_next, st0_next, Nat.zero_add, noTup_sl, cells_sl, ez_P, ya42, ya28, ro0, Tryd.f21]
  refine ⟨_, _, rfl, ?_, ?_, ?_, ?_, ?_, ?_, ?_, ?_⟩ <;> simp only [T.get_set, nb_get, nb_next, st0_next, Nat.reduceAdd, Nat.reduceEqDiff, if_true, if_false]
section
variable {bs : List Bool} {l : List UInt8} {t : T AV} {S : St}
theorem ro1_no {t : T AV} {S : St} (hb : bs = []) (T1 : t.get 1 = some (strS l)) (T2 : t.get 2 = some (.ptr 2 0)) (T4 : t.get 4 = some (.ptr 3 0)) (T5 : t.get 5 = some (.ptr 4 0)) (m2 : S.mem.get 2 = some (.box [.sl 0 0 6 (bs.map declT)])) (m3 : S.mem.get 3 = some (.box [.nils])) (m4 : S.mem.get 4 = some (.box [.v (.int .i64 0)])) :
    W EZ 49 ro1 ⟨t, []⟩ S (fun r => ∃ t' S', r = .out .ret ⟨t', []⟩ S' ∧ t'.get 4 = some (.ptr 3 0) ∧ t'.get 5 = some (.ptr 4 0) ∧ S'.mem.get 3 = some (.box [.nils]) ∧ S'.mem.get 4 = some (.box [.v (.int .i64 (if l = [46] then 0 else 1))])) := by
  subst hb
  have h0 : (((0 : Nat) : Int) == 0) = true := rfl
  unfold strS at T1
  by_cases h : l = [46]
  · have e1 : decide (l = [46]) = true := decide_eq_true h
    rw [if_pos h]
    simp (maxSteps := 2000000) (disch := omega) only [W_skip, W_region, W_seq, W_cond, W_ret, seqQ_normal2, seqQ_ret2, WL_nil2, WL_cons, execL_val2, execL_skip2, putL_none2, putL_some2, condW_t2, condW_f2, wantedA, exec1, evalO, T.get_set, callA, ofOpt, ofConst, neNil3, fb_eqlI, fb_neqSx, neNil9, Nat.reduceLT, Nat.reduceEqDiff, if_true, if_false, true_and, List.getElem?_cons_zero, List.nil_append, Bool.false_eq_true, Bool.not_true, to_get, cl1_box, vstB_v, vstB_n, List.length_cons, List.length_nil, Nat.zero_add, Nat.reduceLeDiff, List.drop_succ_cons, List.drop_nil, List.take_zero, ez_P, neNil9, ys42, yl31, ys28, ynO, vstB_n, vstB_v, ro1, Tryd.f21, T1, T2, T4, T5, m2, m3, m4, h0, e1, List.map_nil, List.length_nil, to_get]
    refine ⟨_, _, rfl, ?_, ?_, ?_, ?_⟩ <;> simp only [T.get_set, to_get, T4, T5, m3, m4, Nat.reduceEqDiff, if_true, if_false]
  · have e1 : decide (l = [46]) = false := decide_eq_false h
    rw [if_neg h]
    simp (maxSteps := 2000000) (disch := omega) only [W_skip, W_region, W_seq, W_cond, W_ret, seqQ_normal2, seqQ_ret2, WL_nil2, WL_cons, execL_val2, execL_skip2, putL_none2, putL_some2, condW_t2, wantedA, exec1, evalO, T.get_set, callA, ofOpt, ofConst, neNil3, fb_eqlI, fb_neqSx, neNil9, Nat.reduceLT, Nat.reduceEqDiff, if_true, if_false, true_and, List.getElem?_cons_zero, List.nil_append, Bool.false_eq_true, Bool.not_false, to_get, cl1_box, vstB_v, vstB_n, List.length_cons, List.length_nil, Nat.zero_add, Nat.reduceLeDiff, List.drop_succ_cons, List.drop_nil, List.take_zero, ez_P, neNil9, ys42, yl31, ys28, ynO, vstB_n, vstB_v, ro1, Tryd.f21, T1, T2, T4, T5, m2, m3, m4, h0, e1, List.map_nil, List.length_nil, to_get]
    refine ⟨_, _, rfl, ?_, ?_, ?_, ?_⟩ <;> simp only [T.get_set, to_get, T4, T5, m3, m4, Nat.reduceEqDiff, if_true, if_false]
theorem ro1_go {t : T AV} {S : St} (hb : bs ≠ []) (T1 : t.get 1 = some (strS l)) (T2 : t.get 2 = some (.ptr 2 0)) (T4 : t.get 4 = some (.ptr 3 0)) (T5 : t.get 5 = some (.ptr 4 0)) (m2 : S.mem.get 2 = some (.box [.sl 0 0 6 (bs.map declT)])) :
    W EZ 49 ro1 ⟨t, []⟩ S (fun r => ∃ t', r = .out .normal ⟨t', []⟩ S ∧ t'.get 1 = some (strS l) ∧ t'.get 2 = some (.ptr 2 0) ∧ t'.get 4 = some (.ptr 3 0) ∧ t'.get 5 = some (.ptr 4 0)) := by
  have hl : (bs.map declT).length = bs.length := List.length_map ..
  have h0 : (((bs.length : Nat) : Int) == 0) = false := by
    rw [beq_eq_false_iff_ne]
    intro h
    exact hb (List.eq_nil_of_length_eq_zero (by omega))
  simp (maxSteps := 2000000) (disch := omega) only [W_skip, W_region, W_seq, W_cond, seqQ_normal2, WL_nil2, WL_cons, execL_val2, putL_some2, condW_f2, wantedA, exec1, evalO, T.get_set, callA, ofOpt, ofConst, neNil3, fb_eqlI, Nat.reduceLT, Nat.reduceEqDiff, if_true, if_false, true_and, List.getElem?_cons_zero, Bool.false_eq_true, cl1_box, ez_P, yl31, ynO, ro1, Tryd.f21, T2, m2, hl, h0]
  refine ⟨_, rfl, ?_, ?_, ?_, ?_⟩ <;> simp only [T.get_set, T1, T2, T4, T5, Nat.reduceEqDiff, if_false]
theorem ro5_w {t : T AV} {S : St} (hb : bs.length ≤ 5) (T1 : t.get 1 = some (strS l)) (T2 : t.get 2 = some (.ptr 2 0)) (T4 : t.get 4 = some (.ptr 3 0)) (T5 : t.get 5 = some (.ptr 4 0)) (hn : S.next = 5) (m2 : S.mem.get 2 = some (.box [.sl 0 0 6 (bs.map declT)])) (m3 : S.mem.get 3 = some (.box [.nils])) (m4 : S.mem.get 4 = some (.box [.v (.int .i64 0)])) :
    W EZ 49 ro5 ⟨t, []⟩ S (fun r => ∃ t' S', r = .out .normal ⟨t', []⟩ S' ∧ t'.get 1 = some (strS l) ∧ t'.get 2 = some (.ptr 2 0) ∧ t'.get 4 = some (.ptr 3 0) ∧ t'.get 5 = some (.ptr 4 0) ∧ t'.get 6 = some (.ptr 6 0) ∧ S'.next = 7 ∧ S'.mem.get 2 = some (.box [.sl 0 0 6 (bs.map declT)]) ∧ S'.mem.get 3 = some (.box [.nils]) ∧ S'.mem.get 4 = some (.box [.v (.int .i64 0)]) ∧ S'.mem.get 5 = some (.tip 0) ∧ S'.mem.get 6 = some (.box [.sl 5 0 1 []])) := by
  have hl : (bs.map declT).length = bs.length := List.length_map ..
  have hmk := make_I S bs.length (by omega)
  simp (maxSteps := 2000000) (disch := omega) only [W_region, WL_nil2, WL_cons, execL_val2, execL_skip2, putL_none2, putL_some2, wantedA, exec1, evalO, T.get_set, callA, ofOpt, ofOptS, ofConst, Nat.reduceLT, Nat.reduceEqDiff, if_true, if_false, true_and, List.getElem?_cons_zero, List.nil_append, nb_get, cl1_box, vstB_s, List.length_cons, List.length_nil, Nat.zero_add, Nat.reduceLeDiff, List.drop_succ_cons, List.drop_nil, List.take_zero, ez_P, ys42, yl31, ya42, ynO, vstB_s, ro5, Tryd.f21, T2, m2, hl, hmk, mk_get, mk_next]
  refine ⟨_, _, rfl, ?_, ?_, ?_, ?_, ?_, ?_, ?_, ?_, ?_, ?_, ?_⟩ <;> simp only [T.get_set, T1, T2, T4, T5, to_get, to_next, nb_get, nb_next, mk_get, mk_next, hn, m2, m3, m4, Nat.reduceAdd, Nat.reduceEqDiff, if_true, if_false]
theorem ro6_w {t : T AV} {S : St} (T1 : t.get 1 = some (strS l)) (T2 : t.get 2 = some (.ptr 2 0)) (T4 : t.get 4 = some (.ptr 3 0)) (T5 : t.get 5 = some (.ptr 4 0)) (T6 : t.get 6 = some (.ptr 6 0)) (hn : S.next = 7) :
    W EZ 49 ro6 ⟨t, []⟩ S (fun r => ∃ t', r = .out .normal ⟨t', []⟩ (seqS S l 32) ∧ t'.get 2 = some (.ptr 2 0) ∧ t'.get 4 = some (.ptr 3 0) ∧ t'.get 5 = some (.ptr 4 0) ∧ t'.get 6 = some (.ptr 6 0) ∧ t'.get 19 = some (.fn (.func 43) [] [.ptr 8 0, .ptr 7 0, .ptr 9 0])) := by
  obtain ⟨fn1, hf1⟩ := fnz_20
  unfold strS at T1
  simp (maxSteps := 2000000) (disch := omega) only [W_region, WL_cons, execL_val2, execL_enter2, putL_some2, wantedA, exec1, evalO, T.get_set, callA, mapO, ofOpt, ofConst, Nat.reduceLT, if_true, true_and, List.nil_append, List.append_nil, ro6, Tryd.f21, T1, hf1]
  refine split_w ?_
  unfold seqV
  rw [hn]
  simp (maxSteps := 2000000) (disch := omega) only [WL_nil2, putL_some2, retL_ret2, Nat.reduceLT, Nat.reduceAdd, true_and]
  refine ⟨_, rfl, ?_, ?_, ?_, ?_, ?_⟩ <;> simp only [T.get_set, T2, T4, T5, T6, Nat.reduceEqDiff, if_true, if_false]
end
end Go.Ax
noncomputable section
namespace Go.Ax
open Go.RowKit Go.Proofs
set_option linter.unusedVariables false
set_option linter.unusedSimpArgs false
set_option maxRecDepth 100000
theorem tip_ne {S : St} {tk id : Nat} {es : List AV} {cs : List AV} (h : RowO 1 S tk es) (h1 : tk ≠ 1) (hb : S.mem.get id = some (.box cs)) : id ≠ tk := fun e => by
  subst e
  rcases h with h | ⟨_, _, h⟩
  · exact h1 h
  · rw [hb] at h; cases h
theorem ro_rd {bs : List Bool} {l : List UInt8} (hb5 : bs.length ≤ 5) {t0 : T AV} (T2 : t0.get 2 = some (.ptr 2 0)) (T4 : t0.get 4 = some (.ptr 3 0)) (T5 : t0.get 5 = some (.ptr 4 0)) (T6 : t0.get 6 = some (.ptr 6 0)) (x : List UInt8) (xs : List (List UInt8)) (S : St) (h : RowI bs l (x :: xs) S) :
    W EZ 49 roA ⟨t0.set 20 (some (strS x)), []⟩ S (fun r => ∃ t1 S1, r = .out .normal ⟨t1, []⟩ S1 ∧ W EZ 49 roB ⟨t1, []⟩ S1 (fun r => (∃ f' S', r = .out .normal f' S' ∧ RowI bs l xs S' ∧ KeepI 8 7 9 S S') ∨ (∃ f' S', r = .out .ret f' S' ∧ RowX bs l S'))) := by
  obtain ⟨acc, tk, RO, h1, m6, hle, hrow⟩ := h.ex
  have m2 := h.m2
  have m3 := h.m3
  have m4 := h.m4
  obtain ⟨b7, m7⟩ := h.m7
  obtain ⟨b8, m8⟩ := h.m8
  obtain ⟨b9, m9⟩ := h.m9
  have hx := h.few x (List.mem_cons_self ..)
  have hnx := h.nx
  have hla : (acc.map i64A).length = acc.length := List.length_map ..
  have hlb : (bs.map declT).length = bs.length := List.length_map ..
  obtain ⟨fn1, hf1⟩ := fnz_33
  unfold strS
  simp (maxSteps := 2000000) (disch := omega) only [W_region, WL_nil2, WL_cons, execL_val2, putL_some2, wantedA, exec1, evalO, T.get_set, ofOpt, Nat.reduceLT, if_true, true_and, roA, Tryd.f21]
  refine ⟨_, _, rfl, ?_⟩
  by_cases hfull : acc.length = bs.length
  · have e1 : ((((acc.length : Nat) : Int)) == ((bs.length : Nat) : Int)) = true := by rw [beq_iff_eq]; omega
    simp (maxSteps := 2000000) (disch := omega) only [W_skip, W_region, W_seq, W_cond, W_block, W_ret, seqQ_normal2, seqQ_ret2, blockW_ret2, WL_nil2, WL_cons, execL_val2, execL_skip2, putL_none2, putL_some2, condW_t2, wantedA, exec1, evalO, T.get_set, callA, ofOpt, ofConst, neNil3, fb_eqlI, Nat.reduceLT, Nat.reduceEqDiff, if_true, if_false, true_and, List.getElem?_cons_zero, List.nil_append, Bool.false_eq_true, to_get, cl1_box, vstB_v, vstB_n, List.length_cons, List.length_nil, Nat.zero_add, Nat.reduceLeDiff, List.drop_succ_cons, List.drop_nil, List.take_zero, ez_P, yl42, ys42, yl31, ys28, ynI, ynO, vstB_n, vstB_v, e1, to_get, roB, Tryd.f21, T2, T4, T5, T6, m2, m3, m4, m6, hla, hlb]
    refine .inr ⟨_, _, rfl, ?_, 12, ?_, by decide, ?_⟩
    · simp only [to_get, m3, Nat.reduceEqDiff, if_true, if_false]
    · simp only [to_get, Nat.reduceEqDiff, if_true, if_false]; rfl
    · rw [hrow, hfull, List.drop_length]; rfl
  · have e1 : ((((acc.length : Nat) : Int)) == ((bs.length : Nat) : Int)) = false := by rw [beq_eq_false_iff_ne]; omega
    have hlt : acc.length < bs.length := by omega
    have hdr : bs.drop acc.length = bs[acc.length] :: bs.drop (acc.length + 1) := List.drop_eq_getElem_cons hlt
    have hix := yxO 0 0 (bs.map declT) acc.length (by rw [hlb]; exact hlt)
    rw [List.getElem_map] at hix
    rw [hdr] at hrow
    generalize bs[acc.length] = bt at hix hrow
    have hld := fun S => yle56 S bt
    simp (maxSteps := 2000000) (disch := omega) only [W_skip, W_region, W_seq, W_cond, W_block, W_ret, seqQ_normal2, seqQ_ret2, blockW_ret2, WL_nil2, WL_cons, execL_val2, execL_skip2, execL_enter2, putL_none2, putL_some2, condW_f2, wantedA, exec1, evalO, T.get_set, callA, mapO, ofOpt, ofConst, neNil3, fb_eqlI, Nat.reduceLT, Nat.reduceEqDiff, if_true, if_false, true_and, List.getElem?_cons_zero, List.nil_append, List.append_nil, Bool.false_eq_true, to_get, cl1_box, vstB_v, vstB_n, List.length_cons, List.length_nil, Nat.zero_add, Nat.reduceLeDiff, List.drop_succ_cons, List.drop_nil, List.take_zero, ez_P, yl42, ys42, yl31, ys28, ynI, ynO, vstB_n, vstB_v, e1, hix, hld, hf1, roB, Tryd.f21, T2, T4, T5, T6, m2, m3, m4, m6, hla, hlb]
    refine dval_u hx ?_
    rw [show i64A (valF x bt).1 = .v (.int .i64 (valF x bt).1) from rfl, show i64A (((valF x bt).2 : Nat) : Int) = .v (.int .i64 (((valF x bt).2 : Nat) : Int)) from rfl]
    by_cases he : (valF x bt).2 = 0
    · have e2 : ((((valF x bt).2 : Nat) : Int) != 0) = false := by rw [he]; rfl
      rw [combR_go acc he] at hrow
      obtain ⟨bytes, hrt⟩ := ytI
      obtain ⟨S2, happ, ro2, n2, k2⟩ := push_row (E := EZ) hrt rfl rfl RO (by omega) (i64A (valF x bt).1) rfl (by rw [hla]; omega)
      have hbs := yrI_1 (valF x bt).1
      have hmm : acc.map i64A ++ [i64A (valF x bt).1] = (acc ++ [(valF x bt).1]).map i64A := by rw [List.map_append]; rfl
      rw [hmm] at happ ro2
      have hlen2 : (acc ++ [(valF x bt).1]).length = acc.length + 1 := by rw [List.length_append]; rfl
      generalize hacc : acc ++ [(valF x bt).1] = acc2 at happ ro2 hrow hlen2
      have q2 := (k2 2 (tip_ne RO h1 m2) (by omega)).trans m2
      have q3 := (k2 3 (tip_ne RO h1 m3) (by omega)).trans m3
      have q4 := (k2 4 (tip_ne RO h1 m4) (by omega)).trans m4
      have q6 := (k2 6 (tip_ne RO h1 m6) (by omega)).trans m6
      have q7 := k2 7 (tip_ne RO h1 m7) (by omega)
      have q8 := k2 8 (tip_ne RO h1 m8) (by omega)
      have q9 := k2 9 (tip_ne RO h1 m9) (by omega)
      rw [show i64A (valF x bt).1 = .v (.int .i64 (valF x bt).1) from rfl] at happ
      simp (maxSteps := 2000000) (disch := omega) only [W_skip, W_region, W_seq, W_cond, W_ret, seqQ_normal2, seqQ_ret2, blockW_normal2, blockW_ret2, WL_nil2, WL_cons, execL_val2, execL_skip2, putL_none2, putL_some2, retL_ret2, condW_f2, wantedA, exec1, evalO, T.get_set, callA, ofOpt, ofOptS, ofConst, partsA, fb_neqI, Nat.reduceLT, Nat.reduceEqDiff, if_true, if_false, true_and, List.getElem?_cons_succ, List.getElem?_cons_zero, List.nil_append, Bool.false_eq_true, to_get, cl1_box, vstB_v, vstB_n, vstB_s, List.length_cons, List.length_nil, Nat.zero_add, Nat.reduceLeDiff, List.drop_succ_cons, List.drop_nil, List.take_zero, oExtract, ez_P, neNil28, oExtract, yl42, ys42, ys28, vstB_s, vstB_n, vstB_v, e2, happ, hbs, to_get, q6, T4, T5, T6, m3, m4, m6]
      refine .inl ⟨_, _, rfl, ⟨⟨acc2, S.next, ro2.keep (Nat.le_refl _) (fun _ _ => by rw [to_get, if_neg (by omega)]), by omega, by rw [to_get, if_pos rfl], by omega, ?_⟩, ?_, ?_, ?_, ?_, ?_, ?_, fun y hy => h.few y (List.mem_cons_of_mem _ hy), by rw [to_next]; omega⟩, ?_, ?_, ?_, ?_⟩
      · rw [hlen2]; exact hrow
      · rw [to_get, if_neg (by decide)]; exact q2
      · rw [to_get, if_neg (by decide)]; exact q3
      · rw [to_get, if_neg (by decide)]; exact q4
      · exact ⟨b7, by rw [to_get, if_neg (by decide)]; exact q7.trans m7⟩
      · exact ⟨b8, by rw [to_get, if_neg (by decide)]; exact q8.trans m8⟩
      · exact ⟨b9, by rw [to_get, if_neg (by decide)]; exact q9.trans m9⟩
      · rw [to_get, if_neg (by decide)]; exact q8
      · rw [to_get, if_neg (by decide)]; exact q7
      · rw [to_get, if_neg (by decide)]; exact q9
      · rw [to_next]; omega
    · have e2 : ((((valF x bt).2 : Nat) : Int) != 0) = true := by rw [bne_iff_ne]; omega
      rw [combR_bad acc he] at hrow
      simp (maxSteps := 2000000) (disch := omega) only [W_skip, W_region, W_seq, W_cond, W_ret, seqQ_normal2, seqQ_ret2, blockW_ret2, WL_nil2, WL_cons, execL_val2, execL_skip2, putL_none2, putL_some2, retL_ret2, condW_t2, wantedA, exec1, evalO, T.get_set, ofOpt, ofConst, partsA, fb_neqI, Nat.reduceLT, Nat.reduceEqDiff, if_true, if_false, true_and, List.getElem?_cons_succ, List.getElem?_cons_zero, List.nil_append, Bool.false_eq_true, to_get, cl1_box, vstB_v, vstB_n, List.length_cons, List.length_nil, Nat.zero_add, Nat.reduceLeDiff, List.drop_succ_cons, List.drop_nil, List.take_zero, oExtract, ez_P, neNil28, oExtract, yl42, ys42, ys28, vstB_n, vstB_v, e2, to_get, T4, T5, T6, m3, m4, m6]
      refine .inr ⟨_, _, rfl, ?_, (valF x bt).2, ?_, he, hrow⟩
      · simp only [to_get, m3, Nat.reduceEqDiff, if_true, if_false]
      · simp only [to_get, Nat.reduceEqDiff, if_true, if_false]
theorem roZ_w {bs : List Bool} {l : List UInt8} {t : T AV} {S : St} (T2 : t.get 2 = some (.ptr 2 0)) (T4 : t.get 4 = some (.ptr 3 0)) (T5 : t.get 5 = some (.ptr 4 0)) (T6 : t.get 6 = some (.ptr 6 0)) (h : RowI bs l [] S) :
    W EZ 49 roZ ⟨t, []⟩ S (fun r => ∃ t' S' v e, r = .out .ret ⟨t', []⟩ S' ∧ t'.get 4 = some (.ptr 3 0) ∧ t'.get 5 = some (.ptr 4 0) ∧ S'.mem.get 3 = some (.box [v]) ∧ S'.mem.get 4 = some (.box [.v (.int .i64 ((e : Nat) : Int))]) ∧ e = (rowsF bs (splitB 32 l)).2 ∧ freeV v = true ∧ (e ≠ 0 → v = .nils) ∧ (e = 0 → clean v = .sl 0 0 1 ((rowsF bs (splitB 32 l)).1.map i64A))) := by
  obtain ⟨acc, tk, RO, h1, m6, hle, hrow⟩ := h.ex
  have m2 := h.m2
  have m3 := h.m3
  have m4 := h.m4
  have hla : (acc.map i64A).length = acc.length := List.length_map ..
  have hlb : (bs.map declT).length = bs.length := List.length_map ..
  by_cases hlt : acc.length < bs.length
  · have e1 : decide (((acc.length : Nat) : Int) < ((bs.length : Nat) : Int)) = true := by rw [decide_eq_true_eq]; omega
    have hdr : bs.drop acc.length = bs[acc.length] :: bs.drop (acc.length + 1) := List.drop_eq_getElem_cons hlt
    rw [hdr] at hrow
    simp (maxSteps := 2000000) (disch := omega) only [W_skip, W_region, W_seq, W_cond, W_ret, seqQ_normal2, seqQ_ret2, WL_nil2, WL_cons, execL_val2, execL_skip2, putL_none2, putL_some2, condW_t2, wantedA, exec1, evalO, T.get_set, callA, ofOpt, ofConst, neNil3, fb_lss, Nat.reduceLT, Nat.reduceEqDiff, if_true, if_false, true_and, List.getElem?_cons_zero, List.nil_append, Bool.false_eq_true, to_get, cl1_box, vstB_v, vstB_n, vstB_s, List.length_cons, List.length_nil, Nat.zero_add, Nat.reduceLeDiff, List.drop_succ_cons, List.drop_nil, List.take_zero, ez_P, yl42, ys42, yl31, ys28, ynI, ynO, vstB_s, vstB_n, vstB_v, roZ, Tryd.f21, T2, T4, T5, T6, m2, m3, m4, m6, hla, hlb, e1, to_get]
    refine ⟨_, _, .nils, 12, rfl, ?_, ?_, ?_, ?_, by rw [hrow]; rfl, rfl, fun _ => rfl, (fun h => by cases h)⟩ <;> simp only [T.get_set, to_get, m3, T4, T5, Nat.reduceEqDiff, if_true, if_false]
    rfl
  · have e1 : decide (((acc.length : Nat) : Int) < ((bs.length : Nat) : Int)) = false := by rw [decide_eq_false_iff_not]; omega
    have hdr : bs.drop acc.length = [] := List.drop_of_length_le (by omega)
    rw [hdr] at hrow
    have hr2 : rowsF bs (splitB 32 l) = (acc, 0) := by rw [hrow]; show (acc ++ [], 0) = _; rw [List.append_nil]
    simp (maxSteps := 2000000) (disch := omega) only [W_skip, W_region, W_seq, W_cond, W_ret, seqQ_normal2, seqQ_ret2, WL_nil2, WL_cons, execL_val2, execL_skip2, putL_none2, putL_some2, condW_f2, wantedA, exec1, evalO, T.get_set, callA, ofOpt, ofConst, neNil3, fb_lss, Nat.reduceLT, Nat.reduceEqDiff, if_true, if_false, true_and, List.getElem?_cons_zero, List.nil_append, Bool.false_eq_true, to_get, cl1_box, vstB_v, vstB_n, vstB_s, List.length_cons, List.length_nil, Nat.zero_add, Nat.reduceLeDiff, List.drop_succ_cons, List.drop_nil, List.take_zero, ez_P, yl42, ys42, yl31, ys28, ynI, ynO, vstB_s, vstB_n, vstB_v, roZ, Tryd.f21, T2, T4, T5, T6, m2, m3, m4, m6, hla, hlb, e1, to_get]
    refine ⟨_, _, .sl tk 0 1 (acc.map i64A), 0, rfl, ?_, ?_, ?_, ?_, by rw [hr2], (ints_free acc).1, (fun h => absurd rfl h), fun _ => ?_⟩
    · simp only [T.get_set, T4, Nat.reduceEqDiff, if_false]
    · simp only [T.get_set, T5, Nat.reduceEqDiff, if_false]
    · simp only [to_get, m3, Nat.reduceEqDiff, if_true, if_false]
    · simp only [to_get, m4, Nat.reduceEqDiff, if_true, if_false]; rfl
    · rw [hr2]; show AV.sl 0 0 1 (cleanL _) = _; rw [(ints_free acc).2]
theorem ro_end {t : T AV} {S : St} {v v' : AV} {e : Int} (T4 : t.get 4 = some (.ptr 3 0)) (T5 : t.get 5 = some (.ptr 4 0)) (m3 : S.mem.get 3 = some (.box [v])) (m4 : S.mem.get 4 = some (.box [.v (.int .i64 e)])) (hf : freeV v = true) (hc : clean v = v') : EndOk Tryd.f21 (.tup [v', i64A e]) t S := by
  have hr : Tryd.f21.results.toList = [.cell 4 42, .cell 5 28] := by kernel_rfl
  refine ⟨[v, .v (.int .i64 e)], ?_, ?_, ?_⟩
  · rw [hr]
    simp only [resultsA, T4, T5, ez_P, yl42, yl28, m3, m4, cl1_box, List.getElem?_cons_zero]
  · show (freeV v && (true && true)) = true; rw [hf]; rfl
  · show AV.tup [clean v, .v (.int .i64 e)] = _; rw [hc]; rfl
theorem decls_inj : ∀ {bs cs : List Bool}, bs.map declT = cs.map declT → bs = cs
  | [], [], _ => rfl
  | [], _ :: _, h => by cases h
  | _ :: _, [], h => by cases h
  | b :: bs, c :: cs, h => by
    rw [List.map_cons, List.map_cons] at h
    injection h with h1 h2
    rw [decl_inj h1, decls_inj h2]
theorem rowo_k (bs : List Bool) (l : List UInt8) (hb : bs.length ≤ 5) (hl : l.length ≤ 100000) : KnZ 21 [.sl 0 0 6 (bs.map declT), strS l] := by
  obtain ⟨v1, v2, v3, v4⟩ := rv_ok bs (rowF bs l)
  refine kn_body (a := .tup [rowVal bs (rowF bs l), i64A (rowF bs l).2]) Tryd.func21 ro_is (by rw [ro_nt]; show 2 ≤ 49; decide) (by show (freeV (rowVal bs (rowF bs l)) && (true && true)) = true; rw [v3]; rfl) (by show AV.tup [clean (rowVal bs (rowF bs l)), _] = _; rw [v4]; rfl) ?_ ?_
  · intro bs' l' e hb' hl'
    simp only [List.cons.injEq, and_true, AV.sl.injEq, true_and] at e
    have e1 := decls_inj e.1
    have e2 := str_inj e.2
    subst e1; subst e2
    rfl
  · intro w im tmps hS hg hf hn
    rw [ro_nt] at hn
    refine wpIn_seq (W_in ez_ok ez_intr ez_mix (E := EZ) [] ro0 ro_plain.1 ro0_w hS hf hn hg ?_)
    rintro _ ⟨t1, S1, rfl, a1, a2, a4, a5, an, am2, am3, am4⟩ _ γ1 tm1 w1 s1 e1 f1 n1
    have g1 := hg.mono e1.ev
    have i1 := (imb_start w im).ext hS e1
    by_cases hnil : bs = []
    · refine wpIn_seq (W_in ez_ok ez_intr ez_mix (E := EZ) [] ro1 ro_plain.2.1 (ro1_no hnil a1 a2 a4 a5 am2 am3 am4) s1 f1 n1 g1 ?_)
      rintro _ ⟨t2, S2, rfl, b4, b5, bm3, bm4⟩ _ γ2 tm2 w2 s2 e2 f2 n2
      have i2 := i1.ext s1 e2
      refine end_plain s2 i2 f2 ?_
      have := ro_end (v' := .nils) b4 b5 bm3 bm4 rfl rfl
      have hv : rowVal bs (rowF bs l) = .nils := by unfold rowVal; rw [if_pos (.inl hnil)]
      have he : ((rowF bs l).2 : Int) = if l = [46] then 0 else 1 := by
        unfold rowF; rw [if_pos hnil]; split <;> rfl
      rw [hv, he]
      exact this
    · have hrf : rowF bs l = rowsF bs (splitB 32 l) := by unfold rowF; rw [if_neg hnil]
      refine wpIn_seq (W_in ez_ok ez_intr ez_mix (E := EZ) [] ro1 ro_plain.2.1 (ro1_go hnil a1 a2 a4 a5 am2) s1 f1 n1 g1 ?_)
      rintro _ ⟨t2, rfl, b1, b2, b4, b5⟩ _ γ2 tm2 w2 s2 e2 f2 n2
      have g2 := g1.mono e2.ev
      have i2 := i1.ext s1 e2
      refine wpIn_seq (W_in ez_ok ez_intr ez_mix (E := EZ) [] ro5 ro_plain.2.2.1 (ro5_w hb b1 b2 b4 b5 an am2 am3 am4) s2 f2 n2 g2 ?_)
      rintro _ ⟨t3, S3, rfl, c1, c2, c4, c5, c6, cn, cm2, cm3, cm4, cm5, cm6⟩ _ γ3 tm3 w3 s3 e3 f3 n3
      have g3 := g2.mono e3.ev
      have i3 := i2.ext s2 e3
      refine wpIn_seq (wpIn_seq (W_in ez_ok ez_intr ez_mix (E := EZ) [] ro6 ro_plain.2.2.2.1 (ro6_w c1 c2 c4 c5 c6 cn) s3 f3 n3 g3 ?_))
      rintro _ ⟨t4, rfl, d2, d4, d5, d6, d19⟩ _ γ4 tm4 w4 s4 e4 f4 n4
      have g4 := g3.mono e4.ev
      have i4 := i3.ext s3 e4
      have G7 : (seqS S3 l 32).mem.get 7 = some (.box [strS l]) := by simp only [seqS, nb_get, nb_next, cn, Nat.reduceAdd, Nat.reduceEqDiff, if_true, if_false]
      have G8 : (seqS S3 l 32).mem.get 8 = some (.box [strS [32]]) := by simp only [seqS, nb_get, nb_next, cn, Nat.reduceAdd, Nat.reduceEqDiff, if_true, if_false]
      have G9 : (seqS S3 l 32).mem.get 9 = some (.box [i64A 0]) := by simp only [seqS, nb_get, nb_next, cn, Nat.reduceAdd, Nat.reduceEqDiff, if_true, if_false]
      have GN : (seqS S3 l 32).next = 10 := by simp only [seqS, nb_next, cn]
      have GO : ∀ id, id < 7 → (seqS S3 l 32).mem.get id = S3.mem.get id := fun id hid => by
        simp only [seqS, nb_get, nb_next, cn, Nat.reduceAdd]
        rw [if_neg (by omega), if_neg (by omega), if_neg (by omega)]
      have hI : RowI bs l (splitB 32 l) (seqS S3 l 32) := by
        refine ⟨⟨[], 5, .inr ⟨by decide, by rw [GN]; decide, (GO 5 (by decide)).trans cm5⟩, by decide, (GO 6 (by decide)).trans cm6, Nat.zero_le _, ?_⟩, (GO 2 (by decide)).trans cm2, (GO 3 (by decide)).trans cm3, (GO 4 (by decide)).trans cm4, ⟨_, G7⟩, ⟨_, G8⟩, ⟨_, G9⟩, fun x hx => ?_, by rw [GN]; exact Nat.le_refl _⟩
        · exact (combR_nil _ (rows_shape _ _)).symm
        · exact Nat.le_trans ((split_len 32 l).2 x hx) hl
      refine wpIn_block (range_split (fun fn D => ⟨ro_plain.2.2.2.2.1, ro_plain.2.2.2.2.2.1, n4, (by show 20 < 49; decide), fun xs S cs h => h.st cs, ⟨by decide, by decide⟩, fun x xs S h _ _ _ _ => ro_rd hb d2 d4 d5 d6 x xs S h⟩) hl s4 i4 g4 f4 d19 G8 G7 G9 (by rw [GN]; decide) hI ?_ ?_)
      · intro D γ5 S5 w5 s5 i5 g5 f5 od5 hI5
        show roZ.wpIn (FF none) 0 Tryd.prog _ _ w5
        refine W_in ez_ok ez_intr ez_mix (E := EZ) _ roZ ro_plain.2.2.2.2.2.2 (roZ_w d2 d4 d5 d6 hI5) s5 f5 n4 g5 ?_
        rintro _ ⟨t6, S6, v, e, rfl, k4, k5, km3, km4, he, hfr, hz, hz2⟩ _ γ6 tm6 w6 s6 e6 f6 n6
        refine end_mark s6 (i5.ext s5 e6) f6 (od5.ext e6) ?_
        rw [hrf, ← he]
        by_cases h0 : e = 0
        · have hv : rowVal bs (rowsF bs (splitB 32 l)) = .sl 0 0 1 ((rowsF bs (splitB 32 l)).1.map i64A) := by
            unfold rowVal; rw [if_neg (by rintro (h | h); exact hnil h; exact h (by rw [← he]; exact h0))]
          rw [hv]
          exact ro_end k4 k5 km3 km4 hfr (hz2 h0)
        · have hv : rowVal bs (rowsF bs (splitB 32 l)) = .nils := by
            unfold rowVal; rw [if_pos (.inr (by rw [← he]; exact h0))]
          rw [hv]
          have h7 := hz h0
          subst h7
          exact ro_end k4 k5 km3 km4 rfl rfl
      · intro D γ5 S5 w5 s5 i5 g5 f5 od5 hx
        obtain ⟨xm3, e, xm4, he, hr⟩ := hx
        refine end_mark s5 i5 f5 od5 ?_
        rw [hrf, hr]
        have hv : rowVal bs (([], e) : List Int × Nat) = .nils := by
          unfold rowVal; rw [if_pos (.inr he)]
        rw [hv]
        exact ro_end d4 d5 xm3 xm4 rfl rfl
theorem rowo_u {bs : List Bool} {l : List UInt8} {S : St} {Q : R → Prop} (hb : bs.length ≤ 5) (hl : l.length ≤ 100000) (h : Q (.ret (.tup [rowVal bs (rowF bs l), i64A (rowF bs l).2]) S)) : WC EZ 21 [.sl 0 0 6 (bs.map declT), strS l] S Q :=
  callZ (rowo_k bs l hb hl) (by kernel_rfl) (by show (freeL (bs.map declT) && (true && true)) = true; rw [(decls_free bs).1]; rfl) (by show [AV.sl 0 0 6 (cleanL (bs.map declT)), _] = _; rw [(decls_free bs).2]; rfl) fun a hf _ hs => by
    have := hs bs l rfl hb hl
    subst this
    exact h
end Go.Ax
noncomputable section
namespace Go.Ax
open Go.RowKit Go.Proofs
set_option linter.unusedVariables false
set_option linter.unusedSimpArgs false
set_option maxRecDepth 100000
theorem yg27' : isAggT Tryd.prog 27 = some false := by kernel_rfl
theorem yz27' : sizeT Tryd.prog 27 = some 1 := by kernel_rfl
theorem yz3' : sizeT Tryd.prog 3 = some 1 := by kernel_rfl
theorem yl27 (S : St) (p k : Nat) : oLoad Tryd.prog S 27 (.ptr p k) = cl1 (S.mem.get p) k := vldS yg27' S p k
theorem ys27 (S : St) (p k : Nat) (v : AV) : oStore Tryd.prog S 27 (.ptr p k) v = vstB S (S.mem.get p) p k v 1 := vstG yz27' S p k v
theorem ys3 (S : St) (p k : Nat) (v : AV) : oStore Tryd.prog S 3 (.ptr p k) v = vstB S (S.mem.get p) p k v 1 := vstG yz3' S p k v
theorem ya27 (S : St) : oAlloc Tryd.prog S 27 = some (.ptr S.next 0, S.newBox [.nils]) := by kernel_rfl
theorem ya3 (S : St) : oAlloc Tryd.prog S 3 = some (.ptr S.next 0, S.newBox [.v (.int .i64 0)]) := by kernel_rfl
theorem yfN35 (p k : Nat) : oFieldAddr Tryd.prog 35 (.ptr p k) 2 = some (.ptr p (k + 2)) := by kernel_rfl
def rowsV (bs : List Bool) (acc : List (List Int)) : AV := if acc = [] then .nils else .sl 0 0 1 (rvs bs acc)
def feedV (bs : List Bool) (x : List (List Int) × Int × Nat) : AV := if x.2.2 ≠ 0 then .nils else rowsV bs x.1
/-- The rows so far, as they lie there. -/
def RowsAt (bs : List Bool) (acc : List (List Int)) (S : St) : Prop := (acc = [] ∧ S.mem.get 6 = some (.box [.nils])) ∨ (acc ≠ [] ∧ ∃ tk, RowO 1 S tk (rvs bs acc) ∧ tk ≠ 1 ∧ S.mem.get 6 = some (.box [.sl tk 0 1 (rvs bs acc)]))
structure LinI (bs : List Bool) (l : List UInt8) (xs : List (List UInt8)) (S : St) : Prop where
  ex : ∃ (acc : List (List Int)) (k : Nat), RowsAt bs acc S ∧ S.mem.get 7 = some (.box [.v (.int .i64 ((k : Int) - 1))]) ∧ acc.length ≤ 200 ∧ k + xs.length ≤ 200000 ∧ linesF bs 0 0 (splitB 10 l) = combL acc (linesF bs k acc.length xs)
  m2 : S.mem.get 2 = some (.box [strS [], i64A 0, .sl 0 0 6 (bs.map declT), .nils, .nils, .nils])
  m3 : S.mem.get 3 = some (.box [.nils])
  m4 : S.mem.get 4 = some (.box [.v (.int .i64 0)])
  m5 : S.mem.get 5 = some (.box [.v (.int .i64 0)])
  m8 : ∃ b7, S.mem.get 8 = some (.box b7)
  m9 : ∃ b7, S.mem.get 9 = some (.box b7)
  m10 : ∃ b7, S.mem.get 10 = some (.box b7)
  few : ∀ x ∈ xs, x.length ≤ 100000
  nx : 11 ≤ S.next
def LinX (bs : List Bool) (l : List UInt8) (S : St) : Prop := S.mem.get 3 = some (.box [.nils]) ∧ ∃ (at_ : Int) (e : Nat), S.mem.get 4 = some (.box [.v (.int .i64 at_)]) ∧ S.mem.get 5 = some (.box [.v (.int .i64 ((e : Nat) : Int))]) ∧ e ≠ 0 ∧ linesF bs 0 0 (splitB 10 l) = ([], at_, e)
theorem RowsAt.to {bs : List Bool} {acc : List (List Int)} {S : St} (h : RowsAt bs acc S) {id : Nat} {b : List AV} (hb : S.mem.get id = some (.box b)) (h6 : id ≠ 6) (cs : List AV) : RowsAt bs acc (S.to id cs) := by
  rcases h with ⟨h1, h2⟩ | ⟨h1, tk, h2, h3, h4⟩
  · exact .inl ⟨h1, by rw [to_get, if_neg (Ne.symm h6)]; exact h2⟩
  · exact .inr ⟨h1, tk, h2.keep (Nat.le_refl _) (fun _ _ => by rw [to_get, if_neg (Ne.symm (tip_ne h2 h3 hb))]), h3, by rw [to_get, if_neg (Ne.symm h6)]; exact h4⟩
theorem LinI.st {bs : List Bool} {l : List UInt8} {xs : List (List UInt8)} {S : St} (h : LinI bs l xs S) (cs : List AV) : LinI bs l xs (S.to 8 cs) := by
  obtain ⟨acc, k, h1, h2, h3, h4, h5⟩ := h.ex
  obtain ⟨b8, hb⟩ := h.m8
  refine ⟨⟨acc, k, h1.to hb (by decide) cs, by rw [to_get, if_neg (by decide)]; exact h2, h3, h4, h5⟩, ?_, ?_, ?_, ?_, ⟨cs, by rw [to_get, if_pos rfl]⟩, by rw [to_get, if_neg (by decide)]; exact h.m9, by rw [to_get, if_neg (by decide)]; exact h.m10, h.few, h.nx⟩
  · rw [to_get, if_neg (by decide)]; exact h.m2
  · rw [to_get, if_neg (by decide)]; exact h.m3
  · rw [to_get, if_neg (by decide)]; exact h.m4
  · rw [to_get, if_neg (by decide)]; exact h.m5
def pc0 : Code := match Tryd.f10.body with
  | some (.seq a _) => a
  | _ => .skip
def pc1 : Code := match Tryd.f10.body with
  | some (.seq _ (.seq a _)) => a
  | _ => .skip
def pc2 : Code := match Tryd.f10.body with
  | some (.seq _ (.seq _ (.seq a _))) => a
  | _ => .skip
def pc3 : Code := match Tryd.f10.body with
  | some (.seq _ (.seq _ (.seq _ (.seq (.seq a _) _)))) => a
  | _ => .skip
def pcA : Code := match Tryd.f10.body with
  | some (.seq _ (.seq _ (.seq _ (.seq (.seq _ (.block _ (.rangeFunc _ _ a _))) _)))) => a
  | _ => .skip
def pcB : Code := match Tryd.f10.body with
  | some (.seq _ (.seq _ (.seq _ (.seq (.seq _ (.block _ (.rangeFunc _ _ _ a))) _)))) => a
  | _ => .skip
def pcZ : Code := match Tryd.f10.body with
  | some (.seq _ (.seq _ (.seq _ (.seq _ a)))) => a
  | _ => .skip
theorem pc_is : Tryd.f10.body = some (.seq pc0 (.seq pc1 (.seq pc2 (.seq (.seq pc3 (.block 0 (.rangeFunc (.tmp 13) #[14] pcA pcB))) pcZ)))) := by kernel_rfl
theorem pc_plain : plainC pc0 = true ∧ plainC pc1 = true ∧ plainC pc2 = true ∧ plainC pc3 = true ∧ plainC pcA = true ∧ plainC pcB = true ∧ plainC pcZ = true := ⟨by kernel_rfl, by kernel_rfl, by kernel_rfl, by kernel_rfl, by kernel_rfl, by kernel_rfl, by kernel_rfl⟩
theorem pc_nt : Tryd.f10.ntmps = 39 := by kernel_rfl
theorem pc0_w {bs : List Bool} {l : List UInt8} : W EZ 39 pc0 ⟨initT [nodA bs, strS l] 0, []⟩ St0 (fun r => ∃ t' S', r = .out .normal ⟨t', []⟩ S' ∧ t'.get 1 = some (strS l) ∧ t'.get 2 = some (.ptr 2 0) ∧ t'.get 4 = some (.ptr 3 0) ∧ t'.get 5 = some (.ptr 4 0) ∧ t'.get 6 = some (.ptr 5 0) ∧ S'.next = 6 ∧ S'.mem.get 2 = some (.box [strS [], i64A 0, .sl 0 0 6 (bs.map declT), .nils, .nils, .nils]) ∧ S'.mem.get 3 = some (.box [.nils]) ∧ S'.mem.get 4 = some (.box [.v (.int .i64 0)]) ∧ S'.mem.get 5 = some (.box [.v (.int .i64 0)])) := by
  unfold nodA
  simp (maxSteps := 2000000) (disch := omega) only [W_region, WL_nil2, WL_cons, execL_val2, putL_some2, wantedA, exec1, evalO, initT, T.get_set, T.get_leaf, ofOptS, Nat.reduceLT, Nat.reduceAdd, Nat.reduceEqDiff, if_true, if_false, true_and, nb_next, st0_next, Nat.zero_add, noTup_agg, cells_agg, ez_P, cells_agg, ya28, ya3, ya27, pc0, Tryd.f10]
  refine ⟨_, _, rfl, ?_, ?_, ?_, ?_, ?_, ?_, ?_, ?_, ?_, ?_⟩ <;> simp only [T.get_set, nb_get, nb_next, st0_next, Nat.reduceAdd, Nat.reduceEqDiff, if_true, if_false]
section
variable {bs : List Bool} {l : List UInt8}
theorem pc1_w {t : T AV} {S : St} (T1 : t.get 1 = some (strS l)) (T2 : t.get 2 = some (.ptr 2 0)) (T4 : t.get 4 = some (.ptr 3 0)) (T5 : t.get 5 = some (.ptr 4 0)) (T6 : t.get 6 = some (.ptr 5 0)) (hn : S.next = 6) : W EZ 39 pc1 ⟨t, []⟩ S (fun r => ∃ t', r = .out .normal ⟨t', []⟩ (S.newBox [.nils]) ∧ t'.get 1 = some (strS l) ∧ t'.get 2 = some (.ptr 2 0) ∧ t'.get 4 = some (.ptr 3 0) ∧ t'.get 5 = some (.ptr 4 0) ∧ t'.get 6 = some (.ptr 5 0) ∧ t'.get 7 = some (.ptr 6 0)) := by
  simp (maxSteps := 2000000) (disch := omega) only [W_region, WL_nil2, WL_cons, execL_val2, putL_some2, wantedA, exec1, ofOptS, Nat.reduceLT, true_and, ez_P, ya27, pc1, Tryd.f10, hn]
  refine ⟨_, rfl, ?_, ?_, ?_, ?_, ?_, ?_⟩ <;> simp only [T.get_set, T1, T2, T4, T5, T6, Nat.reduceEqDiff, if_true, if_false]
theorem pc2_w {t : T AV} {S : St} (T1 : t.get 1 = some (strS l)) (T2 : t.get 2 = some (.ptr 2 0)) (T4 : t.get 4 = some (.ptr 3 0)) (T5 : t.get 5 = some (.ptr 4 0)) (T6 : t.get 6 = some (.ptr 5 0)) (T7 : t.get 7 = some (.ptr 6 0)) (hn : S.next = 7) : W EZ 39 pc2 ⟨t, []⟩ S (fun r => ∃ t' S', r = .out .normal ⟨t', []⟩ S' ∧ t'.get 1 = some (strS l) ∧ t'.get 2 = some (.ptr 2 0) ∧ t'.get 4 = some (.ptr 3 0) ∧ t'.get 5 = some (.ptr 4 0) ∧ t'.get 6 = some (.ptr 5 0) ∧ t'.get 7 = some (.ptr 6 0) ∧ t'.get 8 = some (.ptr 7 0) ∧ S'.next = 8 ∧ S'.mem.get 7 = some (.box [.v (.int .i64 (-1))]) ∧ ∀ id, id < 7 → S'.mem.get id = S.mem.get id) := by
  simp (maxSteps := 2000000) (disch := omega) only [W_region, WL_nil2, WL_cons, execL_val2, execL_skip2, putL_none2, putL_some2, wantedA, exec1, evalO, T.get_set, ofOptS, ofConst, Nat.reduceLT, if_true, true_and, List.nil_append, nb_get, vstB_v, List.length_cons, List.length_nil, Nat.zero_add, Nat.reduceLeDiff, List.drop_succ_cons, List.drop_nil, List.take_zero, ez_P, ys3, ya3, vstB_v, pc2, Tryd.f10, hn]
  refine ⟨_, _, rfl, ?_, ?_, ?_, ?_, ?_, ?_, ?_, ?_, ?_, fun id hid => ?_⟩
  rotate_left 9
  · rw [to_get, nb_get, hn, if_neg (by omega), if_neg (by omega)]
  all_goals simp only [T.get_set, T1, T2, T4, T5, T6, T7, to_get, to_next, nb_get, nb_next, hn, Nat.reduceAdd, Nat.reduceEqDiff, if_true, if_false]
theorem pc3_w {t : T AV} {S : St} (T1 : t.get 1 = some (strS l)) (T2 : t.get 2 = some (.ptr 2 0)) (T4 : t.get 4 = some (.ptr 3 0)) (T5 : t.get 5 = some (.ptr 4 0)) (T6 : t.get 6 = some (.ptr 5 0)) (T7 : t.get 7 = some (.ptr 6 0)) (T8 : t.get 8 = some (.ptr 7 0)) (hn : S.next = 8) :
    W EZ 39 pc3 ⟨t, []⟩ S (fun r => ∃ t', r = .out .normal ⟨t', []⟩ (seqS S l 10) ∧ t'.get 2 = some (.ptr 2 0) ∧ t'.get 4 = some (.ptr 3 0) ∧ t'.get 5 = some (.ptr 4 0) ∧ t'.get 6 = some (.ptr 5 0) ∧ t'.get 7 = some (.ptr 6 0) ∧ t'.get 8 = some (.ptr 7 0) ∧ t'.get 13 = some (.fn (.func 43) [] [.ptr 9 0, .ptr 8 0, .ptr 10 0])) := by
  obtain ⟨fn1, hf1⟩ := fnz_20
  unfold strS at T1
  simp (maxSteps := 2000000) (disch := omega) only [W_region, WL_cons, execL_val2, execL_enter2, putL_some2, wantedA, exec1, evalO, T.get_set, callA, mapO, ofOpt, ofConst, Nat.reduceLT, if_true, true_and, List.nil_append, List.append_nil, pc3, Tryd.f10, T1, hf1]
  refine split_w ?_
  unfold seqV
  rw [hn]
  simp (maxSteps := 2000000) (disch := omega) only [WL_nil2, putL_some2, retL_ret2, Nat.reduceLT, Nat.reduceAdd, true_and]
  refine ⟨_, rfl, ?_, ?_, ?_, ?_, ?_, ?_, ?_⟩ <;> simp only [T.get_set, T2, T4, T5, T6, T7, T8, Nat.reduceEqDiff, if_true, if_false]
end
end Go.Ax
noncomputable section
namespace Go.Ax
open Go.RowKit Go.Proofs
set_option linter.unusedVariables false
set_option linter.unusedSimpArgs false
set_option maxRecDepth 100000
theorem fnz_21 : ∃ fn, EZ.F 21 = some fn := Option.isSome_iff_exists.1 (by kernel_rfl)
theorem rvs_fr (bs : List Bool) : ∀ acc : List (List Int), freeL (rvs bs acc) = true ∧ cleanL (rvs bs acc) = rvs bs acc
  | [] => ⟨rfl, rfl⟩
  | r :: acc => by
    obtain ⟨h1, h2⟩ := rvs_fr bs acc
    obtain ⟨v1, v2, v3, v4⟩ := rv_ok bs (r, 0)
    have e : rvs bs (r :: acc) = rowVal bs (r, 0) :: rvs bs acc := rfl
    rw [e]
    exact ⟨by rw [freeL, v3, h1]; rfl, by rw [cleanL, v4, h2]⟩
theorem feedV_fr (bs : List Bool) (x : List (List Int) × Int × Nat) : freeV (feedV bs x) = true ∧ clean (feedV bs x) = feedV bs x := by
  unfold feedV rowsV
  split
  · exact ⟨rfl, rfl⟩
  · split
    · exact ⟨rfl, rfl⟩
    · exact ⟨(rvs_fr bs x.1).1, by show AV.sl 0 0 1 (cleanL _) = _; rw [(rvs_fr bs x.1).2]⟩
theorem rows_push {bs : List Bool} {acc : List (List Int)} {S : St} (h : RowsAt bs acc S) (hn : 2 ≤ S.next) (hl : acc.length ≤ 1000) : ∃ rv, S.mem.get 6 = some (.box [rv]) ∧ (∀ S, oLen Tryd.prog S 27 rv = some acc.length) ∧ ∀ x : AV, x.cells = [x] → ∃ S2, appendE EZ S 27 27 rv (.sl 1 0 1 [x]) = some (.sl S.next 0 1 (rvs bs acc ++ [x]), S2) ∧ RowO 1 S2 S.next (rvs bs acc ++ [x]) ∧ S2.next = S.next + 1 ∧ ∀ id, 2 ≤ id → id < S.next → (∃ b, S.mem.get id = some (.box b)) → S2.mem.get id = S.mem.get id := by
  have hla : (rvs bs acc).length = acc.length := by unfold rvs; rw [List.length_map]
  obtain ⟨bytes, hrt⟩ := ytR
  rcases h with ⟨rfl, h6⟩ | ⟨hne, tk, RO, h1, h6⟩
  · refine ⟨.nils, h6, fun S => ynnR S, fun x hx => ?_⟩
    obtain ⟨S2, g1, g2, g3, g4⟩ := push_nil (E := EZ) hrt rfl rfl hn x (by rw [hx]; rfl)
    exact ⟨S2, g1, g2, g3, fun id i1 i2 _ => g4 id i1 i2⟩
  · refine ⟨.sl tk 0 1 (rvs bs acc), h6, fun S => by rw [ynR, hla], fun x hx => ?_⟩
    obtain ⟨S2, g1, g2, g3, g4⟩ := push_row (E := EZ) hrt rfl rfl RO hn x (by rw [hx]; rfl) (by rw [hla]; omega)
    exact ⟨S2, g1, g2, g3, fun id i1 i2 ⟨b, hb⟩ => g4 id (tip_ne RO h1 hb) i2⟩
theorem beqA_i (k : Int) : beqA (.v (.int .i64 k)) (.v (.int .i64 k)) = true := by simp [beqA, eqS]
theorem pc_rd {bs : List Bool} {l : List UInt8} (hb5 : bs.length ≤ 5) {t0 : T AV} (T2 : t0.get 2 = some (.ptr 2 0)) (T4 : t0.get 4 = some (.ptr 3 0)) (T5 : t0.get 5 = some (.ptr 4 0)) (T6 : t0.get 6 = some (.ptr 5 0)) (T7 : t0.get 7 = some (.ptr 6 0)) (T8 : t0.get 8 = some (.ptr 7 0)) (x : List UInt8) (xs : List (List UInt8)) (S : St) (h : LinI bs l (x :: xs) S) :
    W EZ 39 pcA ⟨t0.set 14 (some (strS x)), []⟩ S (fun r => ∃ t1 S1, r = .out .normal ⟨t1, []⟩ S1 ∧ W EZ 39 pcB ⟨t1, []⟩ S1 (fun r => (∃ f' S', r = .out .normal f' S' ∧ LinI bs l xs S' ∧ KeepI 9 8 10 S S') ∨ (∃ f' S', r = .out .ret f' S' ∧ LinX bs l S'))) := by
  obtain ⟨acc, k, hra, m7, hle, hk, hlin⟩ := h.ex
  have m2 := h.m2
  have m3 := h.m3
  have m4 := h.m4
  have m5 := h.m5
  obtain ⟨b8, m8⟩ := h.m8
  obtain ⟨b9, m9⟩ := h.m9
  obtain ⟨b10, m10⟩ := h.m10
  have hx := h.few x (List.mem_cons_self ..)
  have hnx := h.nx
  have hkx : k + xs.length + 1 ≤ 200000 := by rw [List.length_cons] at hk; omega
  have hw : IntKind.i64.wrap ((k : Int) - 1 + 1) = (k : Int) := by
    rw [show (k : Int) - 1 + 1 = (k : Int) from by omega]
    have := wrap_small (k : Int) (by constructor <;> omega)
    exact this
  have hra7 := hra.to m7 (by decide) [.v (.int .i64 (k : Int))]
  obtain ⟨rv, m6, hlen, hpush⟩ := rows_push hra7 (by rw [to_next]; omega) (by omega)
  have m6' : S.mem.get 6 = some (.box [rv]) := by rw [to_get, if_neg (by decide)] at m6; exact m6
  obtain ⟨fn1, hf1⟩ := fnz_21
  unfold strS
  simp (maxSteps := 2000000) (disch := omega) only [W_region, WL_nil2, WL_cons, execL_val2, putL_some2, wantedA, exec1, evalO, T.get_set, ofOpt, Nat.reduceLT, if_true, true_and, pcA, Tryd.f10]
  refine ⟨_, _, rfl, ?_⟩
  have kn : ∀ {S' : St}, (∀ id, id ≠ 7 → S'.mem.get id = S.mem.get id) → S'.next = S.next → KeepI 9 8 10 S S' := fun h hn => ⟨h 9 (by decide), h 8 (by decide), h 10 (by decide), by omega⟩
  by_cases hbl : x = []
  · have e1 : decide (x = []) = true := decide_eq_true hbl
    rw [hbl, lines_blank] at hlin
    simp (maxSteps := 2000000) (disch := omega) only [W_skip, W_region, W_drawn, W_seq, W_cond, W_block, W_exit, seqQ_normal2, seqQ_exit2, blockW_exit2, WL_nil2, WL_cons, execL_val2, execL_skip2, putL_none2, putL_some2, condW_t2, wantedA, exec1, evalO, T.get_set, callA, mapO, ofOpt, ofConst, neNil3, fb_add, fb_eqlI, fb_eqS, neNil9, Nat.reduceLT, Nat.reduceEqDiff, if_true, if_false, true_and, List.getElem?_cons_succ, List.getElem?_cons_zero, List.nil_append, List.append_nil, Bool.false_eq_true, to_get, cl1_box, vstB_v, List.length_cons, List.length_nil, Nat.zero_add, Nat.reduceLeDiff, List.drop_succ_cons, List.drop_nil, List.take_zero, ez_P, ez_F, neNil9, fb_eqS, yl27, yl31, yl3, ys3, vstB_v, yfN35, e1, to_get, pcB, Tryd.f10, T2, T7, T8, m2, m6', m7, hw, hlen]
    refine .inl ⟨_, _, rfl, ⟨⟨acc, k + 1, hra7, ?_, hle, by omega, hlin⟩, ?_, ?_, ?_, ?_, ⟨b8, ?_⟩, ⟨b9, ?_⟩, ⟨b10, ?_⟩, fun y hy => h.few y (List.mem_cons_of_mem _ hy), by rw [to_next]; exact hnx⟩, kn (fun id hid => by rw [to_get, if_neg hid]) rfl⟩
    · rw [to_get, if_pos rfl, show (((k + 1 : Nat) : Int) - 1) = (k : Int) from by omega]
    all_goals (rw [to_get, if_neg (by decide)]; assumption)
  · have e1 : decide (x = []) = false := decide_eq_false hbl
    by_cases h2 : acc.length = 200
    · have e2 : ((((acc.length : Nat) : Int)) == 200) = true := by rw [beq_iff_eq]; omega
      rw [h2, lines_full hbl] at hlin
      simp (maxSteps := 2000000) (disch := omega) only [W_skip, W_region, W_drawn, W_seq, W_cond, W_block, W_exit, seqQ_normal2, seqQ_exit2, blockW_exit2, WL_nil2, WL_cons, execL_val2, execL_skip2, putL_none2, putL_some2, condW_t2, condW_f2, wantedA, exec1, evalO, T.get_set, callA, mapO, ofOpt, ofConst, neNil3, fb_add, fb_eqlI, fb_eqS, neNil9, Nat.reduceLT, Nat.reduceEqDiff, if_true, if_false, true_and, List.getElem?_cons_succ, List.getElem?_cons_zero, List.nil_append, List.append_nil, Bool.false_eq_true, to_get, cl1_box, vstB_v, List.length_cons, List.length_nil, Nat.zero_add, Nat.reduceLeDiff, List.drop_succ_cons, List.drop_nil, List.take_zero, ez_P, ez_F, neNil9, fb_eqS, yl27, yl31, yl3, ys3, vstB_v, yfN35, e1, e2, to_get, pcB, Tryd.f10, T2, T7, T8, m2, m6', m7, hw, hlen]
      refine WD_by [(0, true), (1, true), (0, false), (2, true), (3, true)] (by kernel_rfl) (by kernel_rfl) ?_
      simp (maxSteps := 2000000) (disch := omega) only [W_ret, seqQ_normal2, seqQ_ret2, blockW_ret2, wantedA, exec1, evalO, T.get_set, ofOpt, ofConst, Nat.reduceLT, Nat.reduceEqDiff, if_true, if_false, true_and, List.getElem?_toArray, List.getElem?_cons_succ, List.getElem?_cons_zero, List.nil_append, Bool.false_eq_true, WR_nil2, WR_op, WR_re2, execR_val2, execR_skip2, putRW_none2, putRW_some2, fixQ_normal2, rsOf, againO, lookV, to_get, cl1_box, vstB_v, vstB_n, List.length_cons, List.length_nil, Nat.zero_add, Nat.reduceLeDiff, List.drop_succ_cons, List.drop_nil, List.take_zero, ez_P, ys27, ys28, yl3, ys3, vstB_n, vstB_v, to_get, T4, T5, T6, T8, m3, m4, m5, m7]
      refine ⟨beqA_i _, .inr ⟨_, _, rfl, ?_, k, 14, ?_, ?_, by decide, by rw [hlin]; rfl⟩⟩
      · simp only [to_get, m3, Nat.reduceEqDiff, if_true, if_false]
      · simp only [to_get, Nat.reduceEqDiff, if_true, if_false]
      · simp only [to_get, Nat.reduceEqDiff, if_true, if_false]; rfl
    · have e2 : ((((acc.length : Nat) : Int)) == 200) = false := by rw [beq_eq_false_iff_ne]; omega
      simp (maxSteps := 2000000) (disch := omega) only [W_skip, W_region, W_drawn, W_seq, W_cond, W_block, W_exit, seqQ_normal2, seqQ_exit2, blockW_exit2, WL_nil2, WL_cons, execL_val2, execL_skip2, execL_enter2, putL_none2, putL_some2, condW_f2, wantedA, exec1, evalO, T.get_set, callA, mapO, ofOpt, ofConst, neNil3, fb_add, fb_eqlI, fb_eqS, neNil9, Nat.reduceLT, Nat.reduceEqDiff, if_true, if_false, true_and, List.getElem?_cons_succ, List.getElem?_cons_zero, List.nil_append, List.append_nil, Bool.false_eq_true, to_get, cl1_box, vstB_v, List.length_cons, List.length_nil, Nat.zero_add, Nat.reduceLeDiff, List.drop_succ_cons, List.drop_nil, List.take_zero, ez_P, neNil9, fb_eqS, yl27, yl31, yl3, ys3, vstB_v, yfN35, e1, e2, to_get, hf1, pcB, Tryd.f10, T2, T7, T8, m2, m6', m7, hw, hlen]
      refine rowo_u hb5 hx ?_
      obtain ⟨v1, v2, v3, v4⟩ := rv_ok bs (rowF bs x)
      rw [show i64A (((rowF bs x).2 : Nat) : Int) = .v (.int .i64 (((rowF bs x).2 : Nat) : Int)) from rfl]
      by_cases he : (rowF bs x).2 = 0
      · have e3 : ((((rowF bs x).2 : Nat) : Int) != 0) = false := by rw [he]; rfl
        rw [combL_row acc hbl h2 he] at hlin
        have hrv : rowVal bs (rowF bs x) = rowVal bs ((rowF bs x).1, 0) := by unfold rowVal; rw [he]
        have hbs := yrR_1 _ v1 v2
        obtain ⟨S2, happ, ro2, n2, k2⟩ := hpush (rowVal bs (rowF bs x)) v2
        have hmm : rvs bs acc ++ [rowVal bs (rowF bs x)] = rvs bs (acc ++ [(rowF bs x).1]) := by unfold rvs; rw [List.map_append, hrv]; rfl
        rw [hmm] at happ ro2
        have hlen2 : (acc ++ [(rowF bs x).1]).length = acc.length + 1 := by rw [List.length_append]; rfl
        have hne2 : acc ++ [(rowF bs x).1] ≠ [] := by simp
        generalize acc ++ [(rowF bs x).1] = acc2 at happ ro2 hlin hlen2 hne2
        generalize rowVal bs (rowF bs x) = rw1 at hbs happ
        rw [to_next] at happ ro2 n2 k2
        have q : ∀ id b, id ≠ 7 → 2 ≤ id → id < 11 → S.mem.get id = some (.box b) → S2.mem.get id = S.mem.get id := fun id b i1 i2 i3 hb => by
          have := k2 id i2 (by omega) ⟨b, by rw [to_get, if_neg i1]; exact hb⟩
          rw [this, to_get, if_neg i1]
        have q7 : S2.mem.get 7 = some (.box [.v (.int .i64 (k : Int))]) := by
          have := k2 7 (by decide) (by omega) ⟨_, by rw [to_get, if_pos rfl]⟩
          rw [this, to_get, if_pos rfl]
        have q2 := (q 2 _ (by decide) (by decide) (by decide) m2).trans m2
        have q3 := (q 3 _ (by decide) (by decide) (by decide) m3).trans m3
        have q4 := (q 4 _ (by decide) (by decide) (by decide) m4).trans m4
        have q5 := (q 5 _ (by decide) (by decide) (by decide) m5).trans m5
        have q6 := (q 6 _ (by decide) (by decide) (by decide) m6').trans m6'
        have q8 := q 8 _ (by decide) (by decide) (by decide) m8
        have q9 := q 9 _ (by decide) (by decide) (by decide) m9
        have q10 := q 10 _ (by decide) (by decide) (by decide) m10
        simp (maxSteps := 2000000) (disch := omega) only [W_skip, W_region, W_drawn, W_seq, W_cond, seqQ_normal2, blockW_normal2, WL_nil2, WL_cons, execL_val2, execL_skip2, putL_none2, putL_some2, retL_ret2, condW_f2, wantedA, exec1, evalO, T.get_set, callA, ofOpt, ofOptS, ofConst, partsA, fb_neqI, Nat.reduceLT, Nat.reduceEqDiff, if_true, if_false, true_and, List.getElem?_cons_succ, List.getElem?_cons_zero, List.nil_append, Bool.false_eq_true, to_get, cl1_box, vstB_s, List.length_cons, List.length_nil, Nat.zero_add, Nat.reduceLeDiff, List.drop_succ_cons, List.drop_nil, List.take_zero, oExtract, ez_P, neNil28, oExtract, yl27, ys27, vstB_s, e3, happ, hbs, to_get, q6, T7, m6']
        refine .inl ⟨_, _, rfl, ⟨⟨acc2, k + 1, .inr ⟨hne2, S.next, ro2.keep (Nat.le_refl _) (fun _ _ => by rw [to_get, if_neg (by omega)]), by omega, by rw [to_get, if_pos rfl]⟩, ?_, by omega, by omega, by rw [hlen2]; exact hlin⟩, ?_, ?_, ?_, ?_, ⟨b8, ?_⟩, ⟨b9, ?_⟩, ⟨b10, ?_⟩, fun y hy => h.few y (List.mem_cons_of_mem _ hy), by rw [to_next]; omega⟩, ?_, ?_, ?_, by rw [to_next]; omega⟩
        · rw [to_get, if_neg (by decide), q7, show (((k + 1 : Nat) : Int) - 1) = (k : Int) from by omega]
        · rw [to_get, if_neg (by decide)]; exact q2
        · rw [to_get, if_neg (by decide)]; exact q3
        · rw [to_get, if_neg (by decide)]; exact q4
        · rw [to_get, if_neg (by decide)]; exact q5
        · rw [to_get, if_neg (by decide)]; exact q8.trans m8
        · rw [to_get, if_neg (by decide)]; exact q9.trans m9
        · rw [to_get, if_neg (by decide)]; exact q10.trans m10
        · rw [to_get, if_neg (by decide)]; exact q9
        · rw [to_get, if_neg (by decide)]; exact q8
        · rw [to_get, if_neg (by decide)]; exact q10
      · have e3 : ((((rowF bs x).2 : Nat) : Int) != 0) = true := by rw [bne_iff_ne]; omega
        rw [lines_bad hbl h2 he] at hlin
        generalize rowVal bs (rowF bs x) = rw1
        simp (maxSteps := 2000000) (disch := omega) only [W_skip, W_region, W_drawn, W_seq, W_cond, seqQ_normal2, WL_nil2, WL_cons, execL_val2, putL_some2, retL_ret2, condW_t2, wantedA, exec1, evalO, T.get_set, ofOpt, ofConst, partsA, fb_neqI, Nat.reduceLT, Nat.reduceEqDiff, if_true, if_false, true_and, List.getElem?_cons_succ, List.getElem?_cons_zero, Bool.false_eq_true, to_get, cl1_box, oExtract, ez_P, neNil28, oExtract, yl27, e3, to_get, T7, m6']
        refine WD_by [(0, true), (1, true), (2, true), (0, false), (3, true), (4, true)] (by kernel_rfl) (by kernel_rfl) ?_
        simp (maxSteps := 2000000) (disch := omega) only [W_ret, seqQ_normal2, seqQ_ret2, blockW_ret2, wantedA, exec1, evalO, T.get_set, ofOpt, ofConst, Nat.reduceLT, Nat.reduceEqDiff, if_true, if_false, true_and, List.getElem?_toArray, List.getElem?_cons_succ, List.getElem?_cons_zero, List.nil_append, Bool.false_eq_true, WR_nil2, WR_op, WR_re2, execR_val2, execR_skip2, putRW_none2, putRW_some2, fixQ_normal2, rsOf, againO, lookV, to_get, cl1_box, vstB_v, vstB_n, List.length_cons, List.length_nil, Nat.zero_add, Nat.reduceLeDiff, List.drop_succ_cons, List.drop_nil, List.take_zero, ez_P, ys27, ys28, yl3, ys3, vstB_n, vstB_v, to_get, T4, T5, T6, T8, m3, m4, m5, m7]
        refine ⟨beqA_i _, .inr ⟨_, _, rfl, ?_, k, (rowF bs x).2, ?_, ?_, he, by rw [hlin]; unfold combL; rw [if_neg he]⟩⟩
        · simp only [to_get, m3, Nat.reduceEqDiff, if_true, if_false]
        · simp only [to_get, Nat.reduceEqDiff, if_true, if_false]
        · simp only [to_get, Nat.reduceEqDiff, if_true, if_false]
end Go.Ax
noncomputable section
namespace Go.Ax
open Go.RowKit Go.Proofs
set_option linter.unusedVariables false
set_option linter.unusedSimpArgs false
set_option maxRecDepth 100000
theorem pcZ_w {bs : List Bool} {l : List UInt8} {t : T AV} {S : St} (T4 : t.get 4 = some (.ptr 3 0)) (T5 : t.get 5 = some (.ptr 4 0)) (T6 : t.get 6 = some (.ptr 5 0)) (T7 : t.get 7 = some (.ptr 6 0)) (h : LinI bs l [] S) :
    W EZ 39 pcZ ⟨t, []⟩ S (fun r => ∃ t' S' v acc, r = .out .ret ⟨t', []⟩ S' ∧ t'.get 4 = some (.ptr 3 0) ∧ t'.get 5 = some (.ptr 4 0) ∧ t'.get 6 = some (.ptr 5 0) ∧ S'.mem.get 3 = some (.box [v]) ∧ S'.mem.get 4 = some (.box [.v (.int .i64 (-1))]) ∧ S'.mem.get 5 = some (.box [.v (.int .i64 0)]) ∧ linesF bs 0 0 (splitB 10 l) = (acc, -1, 0) ∧ freeV v = true ∧ clean v = rowsV bs acc) := by
  obtain ⟨acc, k, hra, m7, hle, hk, hlin⟩ := h.ex
  have m3 := h.m3
  have m4 := h.m4
  have m5 := h.m5
  have hl2 : linesF bs 0 0 (splitB 10 l) = (acc, -1, 0) := by rw [hlin]; unfold combL; rw [lines_nil, if_pos rfl, List.append_nil]
  rcases hra with ⟨hn, m6⟩ | ⟨hn, tk, RO, h1, m6⟩
  · simp (maxSteps := 2000000) (disch := omega) only [W_region, W_seq, W_ret, seqQ_normal2, WL_nil2, WL_cons, execL_val2, execL_skip2, putL_none2, putL_some2, wantedA, exec1, evalO, T.get_set, ofOpt, ofConst, Nat.reduceLT, Nat.reduceEqDiff, if_true, if_false, true_and, List.getElem?_cons_zero, List.nil_append, to_get, cl1_box, vstB_v, vstB_n, List.length_cons, List.length_nil, Nat.zero_add, Nat.reduceLeDiff, List.drop_succ_cons, List.drop_nil, List.take_zero, ez_P, yl27, ys27, ys28, ys3, vstB_n, vstB_v, pcZ, Tryd.f10, T4, T5, T6, T7, m3, m4, m5, m6, to_get]
    refine ⟨_, _, .nils, acc, rfl, ?_, ?_, ?_, ?_, ?_, ?_, hl2, rfl, by unfold rowsV; rw [if_pos hn]; rfl⟩ <;> simp only [T.get_set, to_get, m3, m4, m5, T4, T5, T6, Nat.reduceEqDiff, if_true, if_false]
  · simp (maxSteps := 2000000) (disch := omega) only [W_region, W_seq, W_ret, seqQ_normal2, WL_nil2, WL_cons, execL_val2, execL_skip2, putL_none2, putL_some2, wantedA, exec1, evalO, T.get_set, ofOpt, ofConst, Nat.reduceLT, Nat.reduceEqDiff, if_true, if_false, true_and, List.getElem?_cons_zero, List.nil_append, to_get, cl1_box, vstB_v, vstB_s, List.length_cons, List.length_nil, Nat.zero_add, Nat.reduceLeDiff, List.drop_succ_cons, List.drop_nil, List.take_zero, ez_P, yl27, ys27, ys28, ys3, vstB_s, vstB_v, pcZ, Tryd.f10, T4, T5, T6, T7, m3, m4, m5, m6, to_get]
    refine ⟨_, _, .sl tk 0 1 (rvs bs acc), acc, rfl, ?_, ?_, ?_, ?_, ?_, ?_, hl2, (rvs_fr bs acc).1, by unfold rowsV; rw [if_neg hn]; show AV.sl 0 0 1 (cleanL _) = _; rw [(rvs_fr bs acc).2]⟩ <;> simp only [T.get_set, to_get, m3, m4, m5, T4, T5, T6, Nat.reduceEqDiff, if_true, if_false]
theorem pc_end {t : T AV} {S : St} {v v' : AV} {x e : Int} (T4 : t.get 4 = some (.ptr 3 0)) (T5 : t.get 5 = some (.ptr 4 0)) (T6 : t.get 6 = some (.ptr 5 0)) (m3 : S.mem.get 3 = some (.box [v])) (m4 : S.mem.get 4 = some (.box [.v (.int .i64 x)])) (m5 : S.mem.get 5 = some (.box [.v (.int .i64 e)])) (hf : freeV v = true) (hc : clean v = v') : EndOk Tryd.f10 (.tup [v', i64A x, i64A e]) t S := by
  have hr : Tryd.f10.results.toList = [.cell 4 27, .cell 5 3, .cell 6 28] := by kernel_rfl
  refine ⟨[v, .v (.int .i64 x), .v (.int .i64 e)], ?_, ?_, ?_⟩
  · rw [hr]
    simp only [resultsA, T4, T5, T6, ez_P, yl27, yl28, yl3, m3, m4, m5, cl1_box, List.getElem?_cons_zero]
  · show (freeV v && (true && (true && true))) = true; rw [hf]; rfl
  · show AV.tup [clean v, .v (.int .i64 x), .v (.int .i64 e)] = _; rw [hc]; rfl
theorem feedV_rows (bs : List Bool) (ls : List (List UInt8)) : isRows (feedV bs (linesF bs 0 0 ls)) (linesF bs 0 0 ls).1 := by
  have h := lines_rows bs ls
  unfold feedV rowsV
  unfold linesVal at h
  by_cases h1 : (linesF bs 0 0 ls).2.2 ≠ 0
  · rw [if_pos h1] at h ⊢; exact h
  · rw [if_neg h1] at h ⊢
    by_cases h2 : (linesF bs 0 0 ls).1 = []
    · rw [if_pos h2]; exact .inl ⟨rfl, h2⟩
    · rw [if_neg h2]; exact h
theorem nod_inj {bs cs : List Bool} (h : nodA bs = nodA cs) : bs = cs := by
  unfold nodA at h
  simp only [AV.agg.injEq, List.cons.injEq, AV.sl.injEq, and_true, true_and] at h
  exact decls_inj h
theorem fparse_k (bs : List Bool) (l : List UInt8) (hb : bs.length ≤ 5) (hl : l.length ≤ 100000) : KnZ 10 [nodA bs, strS l] := by
  obtain ⟨v3, v4⟩ := feedV_fr bs (linesF bs 0 0 (splitB 10 l))
  refine kn_body (a := .tup [feedV bs (linesF bs 0 0 (splitB 10 l)), i64A (linesF bs 0 0 (splitB 10 l)).2.1, i64A (linesF bs 0 0 (splitB 10 l)).2.2]) Tryd.func10 pc_is (by rw [pc_nt]; show 2 ≤ 39; decide) (by show (freeV (feedV bs (linesF bs 0 0 (splitB 10 l))) && (true && (true && true))) = true; rw [v3]; rfl) (by show AV.tup [clean (feedV bs (linesF bs 0 0 (splitB 10 l))), _, _] = _; rw [v4]; rfl) ?_ ?_
  · intro bs' l' e hb' hl'
    simp only [List.cons.injEq, and_true] at e
    have e1 := nod_inj e.1
    have e2 := str_inj e.2
    subst e1; subst e2
    exact ⟨_, rfl, feedV_rows bs _⟩
  · intro w im tmps hS hg hf hn
    rw [pc_nt] at hn
    refine wpIn_seq (W_in ez_ok ez_intr ez_mix (E := EZ) [] pc0 pc_plain.1 pc0_w hS hf hn hg ?_)
    rintro _ ⟨t1, S1, rfl, a1, a2, a4, a5, a6, an, am2, am3, am4, am5⟩ _ γ1 tm1 w1 s1 e1 f1 n1
    have g1 := hg.mono e1.ev
    have i1 := (imb_start w im).ext hS e1
    refine wpIn_seq (W_in ez_ok ez_intr ez_mix (E := EZ) [] pc1 pc_plain.2.1 (pc1_w a1 a2 a4 a5 a6 an) s1 f1 n1 g1 ?_)
    rintro _ ⟨t2, rfl, b1, b2, b4, b5, b6, b7⟩ _ γ2 tm2 w2 s2 e2 f2 n2
    have g2 := g1.mono e2.ev
    have i2 := i1.ext s1 e2
    have bn : (S1.newBox [.nils]).next = 7 := by rw [nb_next, an]
    have BO : ∀ id, id < 6 → (S1.newBox [.nils]).mem.get id = S1.mem.get id := fun id hid => by rw [nb_get, an, if_neg (by omega)]
    have B6 : (S1.newBox [.nils]).mem.get 6 = some (.box [.nils]) := by rw [nb_get, an, if_pos rfl]
    generalize S1.newBox [.nils] = S2 at *
    refine wpIn_seq (W_in ez_ok ez_intr ez_mix (E := EZ) [] pc2 pc_plain.2.2.1 (pc2_w b1 b2 b4 b5 b6 b7 bn) s2 f2 n2 g2 ?_)
    rintro _ ⟨t3, S3, rfl, c1, c2, c4, c5, c6, c7, c8, cn, cm7, CO⟩ _ γ3 tm3 w3 s3 e3 f3 n3
    have g3 := g2.mono e3.ev
    have i3 := i2.ext s2 e3
    refine wpIn_seq (wpIn_seq (W_in ez_ok ez_intr ez_mix (E := EZ) [] pc3 pc_plain.2.2.2.1 (pc3_w c1 c2 c4 c5 c6 c7 c8 cn) s3 f3 n3 g3 ?_))
    rintro _ ⟨t4, rfl, d2, d4, d5, d6, d7, d8, d13⟩ _ γ4 tm4 w4 s4 e4 f4 n4
    have g4 := g3.mono e4.ev
    have i4 := i3.ext s3 e4
    have G8 : (seqS S3 l 10).mem.get 8 = some (.box [strS l]) := by simp only [seqS, nb_get, nb_next, cn, Nat.reduceAdd, Nat.reduceEqDiff, if_true, if_false]
    have G9 : (seqS S3 l 10).mem.get 9 = some (.box [strS [10]]) := by simp only [seqS, nb_get, nb_next, cn, Nat.reduceAdd, Nat.reduceEqDiff, if_true, if_false]
    have G10 : (seqS S3 l 10).mem.get 10 = some (.box [i64A 0]) := by simp only [seqS, nb_get, nb_next, cn, Nat.reduceAdd, Nat.reduceEqDiff, if_true, if_false]
    have GN : (seqS S3 l 10).next = 11 := by simp only [seqS, nb_next, cn]
    have GO : ∀ id, id < 8 → (seqS S3 l 10).mem.get id = S3.mem.get id := fun id hid => by
      simp only [seqS, nb_get, nb_next, cn, Nat.reduceAdd]
      rw [if_neg (by omega), if_neg (by omega), if_neg (by omega)]
    have A : ∀ id x, id < 6 → S1.mem.get id = some x → (seqS S3 l 10).mem.get id = some x := fun id x hid hx => (GO id (by omega)).trans ((CO id (by omega)).trans ((BO id hid).trans hx))
    have hI : LinI bs l (splitB 10 l) (seqS S3 l 10) := by
      refine ⟨⟨[], 0, .inl ⟨rfl, (GO 6 (by decide)).trans ((CO 6 (by decide)).trans B6)⟩, (GO 7 (by decide)).trans cm7, Nat.zero_le _, ?_, (combL_nil bs _ 0 0).symm⟩, A 2 _ (by decide) am2, A 3 _ (by decide) am3, A 4 _ (by decide) am4, A 5 _ (by decide) am5, ⟨_, G8⟩, ⟨_, G9⟩, ⟨_, G10⟩, fun x hx => ?_, by rw [GN]; exact Nat.le_refl _⟩
      · have := (split_len 10 l).1; omega
      · exact Nat.le_trans ((split_len 10 l).2 x hx) hl
    refine wpIn_block (range_split (fun fn D => ⟨pc_plain.2.2.2.2.1, pc_plain.2.2.2.2.2.1, n4, (by show 14 < 39; decide), fun xs S cs h => h.st cs, ⟨by decide, by decide⟩, fun x xs S h _ _ _ _ => pc_rd hb d2 d4 d5 d6 d7 d8 x xs S h⟩) hl s4 i4 g4 f4 d13 G9 G8 G10 (by rw [GN]; decide) hI ?_ ?_)
    · intro D γ5 S5 w5 s5 i5 g5 f5 od5 hI5
      show pcZ.wpIn (FF none) 0 Tryd.prog _ _ w5
      refine W_in ez_ok ez_intr ez_mix (E := EZ) _ pcZ pc_plain.2.2.2.2.2.2 (pcZ_w d4 d5 d6 d7 hI5) s5 f5 n4 g5 ?_
      rintro _ ⟨t6, S6, v, acc, rfl, k4, k5, k6, km3, km4, km5, hlin, hfr, hcl⟩ _ γ6 tm6 w6 s6 e6 f6 n6
      refine end_mark s6 (i5.ext s5 e6) f6 (od5.ext e6) ?_
      rw [hlin]
      exact pc_end k4 k5 k6 km3 km4 km5 hfr hcl
    · intro D γ5 S5 w5 s5 i5 g5 f5 od5 hx
      obtain ⟨xm3, at_, e, xm4, xm5, he, hr⟩ := hx
      refine end_mark s5 i5 f5 od5 ?_
      rw [hr]
      have hv : feedV bs (([], at_, e) : List (List Int) × Int × Nat) = .nils := by
        unfold feedV; rw [if_pos he]
      rw [hv]
      exact pc_end d4 d5 d6 xm3 xm4 xm5 rfl rfl
/-- The program's reader is known. -/
theorem feed_kn : FeedKn := fparse_k
end Go.Ax
