/-
  The surroundings in which an instant of a unit is known; rows of numbers that are the same.
-/
import Derived.Test.YtgnohckncmhodaaGreatDoorSlG9
set_option linter.unusedVariables false
set_option linter.unusedSimpArgs false
set_option maxHeartbeats 16000000
noncomputable section
namespace Go.Ax
open Go.RowKit Go.Proofs
set_option linter.unusedVariables false
set_option linter.unusedSimpArgs false
set_option maxRecDepth 100000
/-- An instant of a unit (11) is run where there are its boxes alone. -/
def E2 (N : Nat) (ids : List Nat) : Env := { P := Tryz.prog, G := fun _ => none, F := E1.F, I := fun k => Bool.rec (E1.I k) (some (viaSmall E1 2000 27 N ids)) (Nat.beq k 27), M := rowM }
theorem e2_P (N : Nat) (ids : List Nat) : (E2 N ids).P = Tryz.prog := _root_.id rfl
theorem e2_G (N : Nat) (ids : List Nat) : (E2 N ids).G = fun _ => none := _root_.id rfl
theorem e2_ok (N : Nat) (ids : List Nat) : (E2 N ids).Ok := ⟨fun k fn h => e1_ok.fn k fn h⟩
theorem e2_mix (N : Nat) (ids : List Nat) : (E2 N ids).P.follows .mixedOrders = true := e1_mix
theorem e2_intr (N : Nat) (ids : List Nat) : IntrOk (E2 N ids) := fun k g hk base w0 args S hne γ w vs hS hg hv => by
  have hk2 : (Bool.rec (E1.I k) (some (viaSmall E1 2000 27 N ids)) (Nat.beq k 27) : Option (List AV → St → R)) = some g := hk
  cases hb : Nat.beq k 27 with
  | false =>
    rw [hb] at hk2
    exact e1_intr k g hk2 base w0 args S hne γ w vs hS hg hv
  | true =>
    rw [hb] at hk2
    injection hk2 with hk2; subst hk2
    have : k = 27 := Nat.eq_of_beq_eq_true hb
    subst this
    exact viaSmall_ok e1_ok e1_intr e1_mix rfl (by kernel_rfl) ids base w0 args S hne γ w vs hS hv
def i64A (x : Int) : AV := .v (.int .i64 x)
def rowI (tok off : Nat) (l : List Int) : AV := .sl tok off 1 (l.map i64A)
theorem u22 : Tryz.prog.underlying 47 = some (.slice 2) := by kernel_rfl
theorem e22 : elemT Tryz.prog 47 = some (none, 2) := by kernel_rfl
theorem s2 : sizeT Tryz.prog 2 = some 1 := by kernel_rfl
theorem a2 : isAggT Tryz.prog 2 = some false := by kernel_rfl
theorem neNil2 (a b : AV) : neNil Tryz.prog 2 a b = false := by
  have h : Tryz.prog.underlying 2 = some (.int .i64) := by kernel_rfl
  unfold neNil; rw [h]
theorem len22 (S : St) (tok off : Nat) (l : List Int) : oLen Tryz.prog S 47 (rowI tok off l) = some l.length := by simp [oLen, u22, rowI]
theorem flat_i64 : ∀ l : List Int, flat (l.map i64A) = l.map i64A
  | [] => rfl
  | x :: r => by
    have := flat_i64 r
    unfold flat at this ⊢
    rw [List.map_cons, List.flatMap_cons, this]; rfl
theorem idx22 (tok off : Nat) (l : List Int) (i : Nat) (h : i < l.length) : oIndexAddr Tryz.prog 47 (rowI tok off l) (.v (.int .i64 (i : Int))) = some (.ep [i64A l[i]]) := by
  have h0 : (0 : Int) ≤ (i : Int) := by omega
  simp [oIndexAddr, rowI, h0, e22, s2, h, i64A, AV.cells]
theorem ld2 (S : St) (x : Int) : oLoad Tryz.prog S 2 (.ep [i64A x]) = some (.v (.int .i64 x)) := by simp [oLoad, behind, a2, i64A]
def sameBody : Code := match Tryz.f26.body with
  | some (.seq _ (.seq _ (.seq (.seq _ (.block _ (.loop c))) _))) => c
  | _ => .skip
theorem sameBody_is : (match sameBody with | .skip => false | _ => true) = true := by kernel_rfl
section
variable {N : Nat} {ids : List Nat}
theorem same_loop (t1 o1 t2 o2 : Nat) (l : List Int) (hl : l.length ≤ 1000) (S : St) : ∀ (m i : Nat) (t : T AV), i + m = l.length → t.get 0 = some (rowI t1 o1 l) → t.get 1 = some (rowI t2 o2 l) → t.get 12 = some (intA l.length) → t.get 13 = some (intA i) →
    WX (E2 N ids) 26 (.loop sameBody) ⟨t, []⟩ S (fun r => ∃ t', r = .out (.exit 0) ⟨t', []⟩ S)
  | 0, i, t, hi, h0, h1, h12, h13 => by
    refine WX_loop (W_sound ?_)
    have hlt : ¬ ((i : Int) < (l.length : Int)) := by omega
    simp only [intA] at h12 h13
    simp only [thenW_normal, thenW_exit, thenW_ret, thenW_pan, W_skip, W_region, W_drawn, W_seq, W_cond, W_block, W_loop, W_exit, W_ret, seqQ_normal2, seqQ_exit2, seqQ_ret2, seqQ_pan2, blockW_normal2, blockW_ret2, blockW_pan2, blockW_exit2, WL_nil2, WL_cons, execL_no, execL_val2, execL_skip2, execL_enter2, execL_pan2, putL_none2, putL_some2, retL_ret2, retL_pan2, condW_t2, condW_f2, wantedA, exec1, evalO, initT, T.get_set, T.get_leaf, callA, mapO, ofOpt, ofOptS, ofConst, e2_P, e2_G, partsA, neNil3, finW_ret, finW_pan, giveW, resultsA, tupA, ground_not, notO_bool, fb_lss, fb_leq, fb_gtr, fb_geq, fb_add, fb_eqlI, fb_neqI, Nat.reduceLT, Nat.reduceAdd, Nat.reduceEqDiff, if_true, if_false, reduceIte, true_and, and_true, Option.getD_some, List.getElem?_toArray, List.getElem?_cons_succ, List.getElem?_cons_zero, Option.bind_some, List.nil_append, List.append_nil, beq_self_eq_true, Bool.false_eq_true, Bool.true_eq_false, decide_true, decide_false, Bool.not_true, Bool.not_false, Bool.false_beq, Bool.true_beq, Option.toList, List.head?_cons, List.head?_nil, WR_nil2, WR_op, WR_re2, execR_no, execR_val2, execR_skip2, execR_enter2, execR_pan2, putRW_none2, putRW_some2, retRW_ret2, retRW_pan2, fixQ_normal2, fixQ_pan2, rsOf, sameBody, Tryz.f26, h12, h13, hlt]
    exact ⟨_, rfl⟩
  | m + 1, i, t, hi, h0, h1, h12, h13 => by
    refine WX_loop (W_sound ?_)
    have hil : i < l.length := by omega
    have hlt : ((i : Int) < (l.length : Int)) := by omega
    have hx := idx22 t1 o1 l i hil
    have hy := idx22 t2 o2 l i hil
    have hw := wrap_one (i := i) (by omega)
    have hne : (l[i] != l[i]) = false := by simp
    simp only [intA] at h12 h13
    simp only [thenW_normal, thenW_exit, thenW_ret, thenW_pan, W_skip, W_region, W_drawn, W_seq, W_cond, W_block, W_loop, W_exit, W_ret, seqQ_normal2, seqQ_exit2, seqQ_ret2, seqQ_pan2, blockW_normal2, blockW_ret2, blockW_pan2, blockW_exit2, WL_nil2, WL_cons, execL_no, execL_val2, execL_skip2, execL_enter2, execL_pan2, putL_none2, putL_some2, retL_ret2, retL_pan2, condW_t2, condW_f2, wantedA, exec1, evalO, initT, T.get_set, T.get_leaf, callA, mapO, ofOpt, ofOptS, ofConst, e2_P, e2_G, partsA, neNil3, finW_ret, finW_pan, giveW, resultsA, tupA, ground_not, notO_bool, fb_lss, fb_leq, fb_gtr, fb_geq, fb_add, fb_eqlI, fb_neqI, Nat.reduceLT, Nat.reduceAdd, Nat.reduceEqDiff, if_true, if_false, reduceIte, true_and, and_true, Option.getD_some, List.getElem?_toArray, List.getElem?_cons_succ, List.getElem?_cons_zero, Option.bind_some, List.nil_append, List.append_nil, beq_self_eq_true, Bool.false_eq_true, Bool.true_eq_false, decide_true, decide_false, Bool.not_true, Bool.not_false, Bool.false_beq, Bool.true_beq, Option.toList, List.head?_cons, List.head?_nil, WR_nil2, WR_op, WR_re2, execR_no, execR_val2, execR_skip2, execR_enter2, execR_pan2, putRW_none2, putRW_some2, retRW_ret2, retRW_pan2, fixQ_normal2, fixQ_pan2, rsOf, sameBody, Tryz.f26, h12, h13, hlt]
    refine WD_by [(0, true), (1, true), (2, true), (3, true), (4, true), (5, true), (6, true), (7, true), (8, true)] (by kernel_rfl) (by kernel_rfl) ?_
    simp only [thenW_normal, thenW_exit, thenW_ret, thenW_pan, W_skip, W_region, W_drawn, W_seq, W_cond, W_block, W_loop, W_exit, W_ret, seqQ_normal2, seqQ_exit2, seqQ_ret2, seqQ_pan2, blockW_normal2, blockW_ret2, blockW_pan2, blockW_exit2, WL_nil2, WL_cons, execL_no, execL_val2, execL_skip2, execL_enter2, execL_pan2, putL_none2, putL_some2, retL_ret2, retL_pan2, condW_t2, condW_f2, wantedA, exec1, evalO, initT, T.get_set, T.get_leaf, callA, mapO, ofOpt, ofOptS, ofConst, e2_P, e2_G, partsA, neNil3, finW_ret, finW_pan, giveW, resultsA, tupA, ground_not, notO_bool, fb_lss, fb_leq, fb_gtr, fb_geq, fb_add, fb_eqlI, fb_neqI, Nat.reduceLT, Nat.reduceAdd, Nat.reduceEqDiff, if_true, if_false, reduceIte, true_and, and_true, Option.getD_some, List.getElem?_toArray, List.getElem?_cons_succ, List.getElem?_cons_zero, Option.bind_some, List.nil_append, List.append_nil, beq_self_eq_true, Bool.false_eq_true, Bool.true_eq_false, decide_true, decide_false, Bool.not_true, Bool.not_false, Bool.false_beq, Bool.true_beq, Option.toList, List.head?_cons, List.head?_nil, WR_nil2, WR_op, WR_re2, execR_no, execR_val2, execR_skip2, execR_enter2, execR_pan2, putRW_none2, putRW_some2, retRW_ret2, retRW_pan2, fixQ_normal2, fixQ_pan2, rsOf, h0, h1, h13, hx, hy, ld2, neNil2, hne, hw]
    refine WX.mono (same_loop t1 o1 t2 o2 l hl S m (i + 1) _ (by omega) ?_ ?_ ?_ ?_) (fun r h => h)
    · simp only [T.get_set, Nat.reduceEqDiff, if_false, h0]
    · simp only [T.get_set, Nat.reduceEqDiff, if_false, h1]
    · simp only [T.get_set, Nat.reduceEqDiff, if_false, h12]; rfl
    · simp only [T.get_set, Nat.reduceEqDiff, if_true]; rfl
theorem same_w (t1 o1 t2 o2 : Nat) (l : List Int) (hl : l.length ≤ 1000) (S : St) : WC (E2 N ids) 26 [rowI t1 o1 l, rowI t2 o2 l] S (fun r => r = .ret (.v (.int .i64 0)) S) := by
  refine WC_fn Tryz.f26 (by kernel_rfl) (by kernel_rfl) (by kernel_rfl) (show (_ : Nat) ≤ _ from by show (_ : Nat) ≤ _; simp [Tryz.f26]) ?_
  have hne : (((l.length : Nat) : Int) != ((l.length : Nat) : Int)) = false := by simp
  have hl1 := len22 S t1 o1 l
  have hl2 := len22 S t2 o2 l
  simp only [thenW_normal, thenW_exit, thenW_ret, thenW_pan, W_skip, W_region, W_drawn, W_seq, W_cond, W_block, W_loop, W_exit, W_ret, seqQ_normal2, seqQ_exit2, seqQ_ret2, seqQ_pan2, blockW_normal2, blockW_ret2, blockW_pan2, blockW_exit2, WL_nil2, WL_cons, execL_no, execL_val2, execL_skip2, execL_enter2, execL_pan2, putL_none2, putL_some2, retL_ret2, retL_pan2, condW_t2, condW_f2, wantedA, exec1, evalO, initT, T.get_set, T.get_leaf, callA, mapO, ofOpt, ofOptS, ofConst, e2_P, e2_G, partsA, neNil3, finW_ret, finW_pan, giveW, resultsA, tupA, ground_not, notO_bool, fb_lss, fb_leq, fb_gtr, fb_geq, fb_add, fb_eqlI, fb_neqI, Nat.reduceLT, Nat.reduceAdd, Nat.reduceEqDiff, if_true, if_false, reduceIte, true_and, and_true, Option.getD_some, List.getElem?_toArray, List.getElem?_cons_succ, List.getElem?_cons_zero, Option.bind_some, List.nil_append, List.append_nil, beq_self_eq_true, Bool.false_eq_true, Bool.true_eq_false, decide_true, decide_false, Bool.not_true, Bool.not_false, Bool.false_beq, Bool.true_beq, Option.toList, List.head?_cons, List.head?_nil, WR_nil2, WR_op, WR_re2, execR_no, execR_val2, execR_skip2, execR_enter2, execR_pan2, putRW_none2, putRW_some2, retRW_ret2, retRW_pan2, fixQ_normal2, fixQ_pan2, rsOf, Tryz.f26, hl1, hl2, hne]
  refine WX.mono (same_loop t1 o1 t2 o2 l hl S l.length 0 _ (by omega) ?_ ?_ ?_ ?_) ?_
  · simp [T.get_set]
  · simp [T.get_set]
  · simp [T.get_set, intA]
  · simp [T.get_set, intA]
  rintro _ ⟨t', rfl⟩
  simp only [thenW_normal, thenW_exit, thenW_ret, thenW_pan, W_skip, W_region, W_drawn, W_seq, W_cond, W_block, W_loop, W_exit, W_ret, seqQ_normal2, seqQ_exit2, seqQ_ret2, seqQ_pan2, blockW_normal2, blockW_ret2, blockW_pan2, blockW_exit2, WL_nil2, WL_cons, execL_no, execL_val2, execL_skip2, execL_enter2, execL_pan2, putL_none2, putL_some2, retL_ret2, retL_pan2, condW_t2, condW_f2, wantedA, exec1, evalO, initT, T.get_set, T.get_leaf, callA, mapO, ofOpt, ofOptS, ofConst, e2_P, e2_G, partsA, neNil3, finW_ret, finW_pan, giveW, resultsA, tupA, ground_not, notO_bool, fb_lss, fb_leq, fb_gtr, fb_geq, fb_add, fb_eqlI, fb_neqI, Nat.reduceLT, Nat.reduceAdd, Nat.reduceEqDiff, if_true, if_false, reduceIte, true_and, and_true, Option.getD_some, List.getElem?_toArray, List.getElem?_cons_succ, List.getElem?_cons_zero, Option.bind_some, List.nil_append, List.append_nil, beq_self_eq_true, Bool.false_eq_true, Bool.true_eq_false, decide_true, decide_false, Bool.not_true, Bool.not_false, Bool.false_beq, Bool.true_beq, Option.toList, List.head?_cons, List.head?_nil, WR_nil2, WR_op, WR_re2, execR_no, execR_val2, execR_skip2, execR_enter2, execR_pan2, putRW_none2, putRW_some2, retRW_ret2, retRW_pan2, fixQ_normal2, fixQ_pan2, rsOf, Tryz.f26]
end
end Go.Ax
noncomputable section
namespace Go.Ax
open Go.RowKit Go.Proofs
set_option linter.unusedVariables false
set_option linter.unusedSimpArgs false
set_option maxRecDepth 100000
/-- A frame of which some places are known. -/
def frL (l : List (Nat × AV)) : T AV := l.foldr (fun p f => f.set p.1 (some p.2)) .leaf
theorem frL_ok {γ : Gh} {w : World} {tmps : Array Value} : ∀ l : List (Nat × AV), (∀ p ∈ l, ∃ v, tmps[p.1]? = some v ∧ VR γ w p.2 v) → FR γ w (frL l) tmps
  | [], _ => fun t a h => by
    have h : (T.leaf : T AV).get t = some a := h
    rw [T.get_leaf] at h; cases h
  | p :: l, hp => fun t a h => by
    have hq : ((frL l).set p.1 (some p.2)).get t = some a := h
    rw [T.get_set] at hq
    split at hq
    · rename_i e; subst e
      injection hq with hq2; subst hq2
      obtain ⟨v, h1, h2⟩ := hp p (List.mem_cons_self ..)
      obtain ⟨hl, he⟩ := Array.getElem?_eq_some_iff.1 h1
      exact ⟨hl, by simp only [Array.getD_eq_getD_getElem?, h1, Option.getD_some]; exact h2⟩
    · exact frL_ok l (fun q hqq => hp q (List.mem_cons_of_mem _ hqq)) t a hq
/-- All that lies in memory is known to stay. -/
def GhW (w : World) : Gh := { loc := fun _ => none, im := fun b o => b < w.heap.size ∧ ∃ v, w.cell? ⟨b, o, none⟩ = some v }
theorem SR.whole (w : World) : SR w.heap.size w (GhW w) St0 w :=
  ⟨.refl _ _, Nat.le_refl _, fun _ _ h => h.2, fun _ _ => ⟨rfl, rfl⟩, Nat.le_refl _, fun _ _ _ h => (by cases h), fun _ _ h => (by cases h), fun _ _ _ _ _ _ _ h => (by cases h)⟩
end Go.Ax
noncomputable section
namespace Go.Ax
open Go.RowKit Go.Proofs
set_option linter.unusedVariables false
set_option linter.unusedSimpArgs false
set_option maxRecDepth 100000
/-- What a run leaves, where it comes to its end. -/
def outF : O → T AV
  | .out _ f _ => f.tmps
  | .fail => .leaf
def outS : O → St
  | .out _ _ S => S
  | .fail => St0
def lookO (ids ts : List Nat) : O → Option (Nat × List (Option AV) × List (Option Cell))
  | .out e f S => match e with
    | .normal => match f.dfr with
      | [] => some (S.next, ts.map f.tmps.get, ids.map S.mem.get)
      | _ => none
    | _ => none
  | .fail => none
theorem lookO_spec {ids ts : List Nat} {r : O} {n : Nat} {vs : List (Option AV)} {cs : List (Option Cell)} (h : lookO ids ts r = some (n, vs, cs)) : r = .out .normal ⟨outF r, []⟩ (outS r) ∧ (outS r).next = n ∧ ts.map (outF r).get = vs ∧ ids.map (outS r).mem.get = cs := by
  cases r with
  | fail => cases h
  | out e f S =>
    obtain ⟨t, d⟩ := f
    cases e with
    | normal =>
      cases d with
      | nil =>
        simp only [lookO] at h
        injection h with h; injection h with h1 h; injection h with h2 h3
        exact ⟨rfl, h1, h2, h3⟩
      | cons a r => cases h
    | exit i => cases h
    | ret => cases h
    | pan a => cases h
/-- Code that is known to come to its end. -/
theorem codeX_norm {E : Env} (hE : E.Ok) (hI : IntrOk E) (hmix : E.P.follows .mixedOrders = true) (hG : E.G = fun _ => none) {m n : Nat} {c : Code} {f : T AV} {S : St} {r : O} (hr : (comp E n c none).c (callX E m) f [] S = r) (h : r = .out .normal ⟨outF r, []⟩ (outS r)) {Q : Exit → Act → World → Prop} {K : Act → World → Prop} {act : Act} {γ : Gh} {base : Nat} {w0 w : World}
    (hS : SR base w0 γ S w) (hf : FR γ w f act.tmps) (hn : act.tmps.size = n) (hd : act.defers = [])
    (hQ : ∀ act' w' γ', act'.tmps.size = n → act'.defers = [] → SR base w0 γ' (outS r) w' → FR γ' w' (outF r) act'.tmps → K act' w') : c.wp E.P (Exit.then K Q) act w := by
  rcases comp_ok (E := E) (n := n) (callX_F m) c none f [] S with h0 | ⟨j, h0⟩
  · rw [hr, h] at h0; cases h0
  rw [hr] at h0
  have h0 : runC E (drawnNew E) (callX E m) j n c ⟨f, []⟩ S = r := h0
  refine (runC_sound hE (drawnNew_ok hE hmix) (callX_ok hE hI hmix m) j).code base w0 (Exit.then K Q) n c γ S w ⟨f, []⟩ act hS ⟨hf, hn, by rw [hd]; trivial⟩ (by rw [hG]; exact GR.none) ?_
  rw [h0, h]
  intro γ' act' w' h1 h2 h3
  have hd' : act'.defers = [] := by
    have hdd := h3.dfr
    cases hx : act'.defers with
    | nil => rfl
    | cons a r => rw [hx] at hdd; exact hdd.elim
  exact hQ act' w' γ' h3.size hd' h1 h3.tmps
def seeR (ids : List Nat) : R → Option (AV × List (Option Cell))
  | .ret a S => Bool.rec none (some (clean a, ids.map S.mem.get)) (freeV a)
  | _ => none
theorem via_eq {k N : Nat} {ids : List Nat} {args : List AV} {S : St} {a : AV} {cs : List (Option Cell)} (h1 : smallIn N ids args S = true) (h2 : seeR ids (callX E1 2000 k args ⟨N, subM S ids⟩) = some (a, cs)) (h3 : cs.all (okC N) = true) :
    ∃ S', viaSmall E1 2000 k N ids args S = .ret a S' ∧ S'.next = S.next ∧ (∀ j, j ∉ ids → S'.mem.get j = S.mem.get j) ∧ ids.map S'.mem.get = cs := by
  unfold viaSmall
  rw [h1]
  cases hr : callX E1 2000 k args ⟨N, subM S ids⟩ with
  | fail => rw [hr] at h2; cases h2
  | pan x S' => rw [hr] at h2; cases h2
  | ret x S' =>
    rw [hr] at h2
    cases hf : freeV x with
    | false => simp only [seeR, hf] at h2; cases h2
    | true =>
      simp only [seeR, hf] at h2
      injection h2 with h2; injection h2 with h4 h5
      have hall : (freeV x && ids.all (fun i => okC N (S'.mem.get i))) = true := by
        rw [hf, Bool.true_and, List.all_eq_true]
        intro i hi
        rw [← h5, List.all_eq_true] at h3
        exact h3 _ (List.mem_map.2 ⟨i, hi, rfl⟩)
      refine ⟨⟨S.next, backM S S' ids⟩, ?_, rfl, fun j hj => (backM_get S S' ids j).2 hj, ?_⟩
      · show (Bool.rec R.fail (R.ret (clean x) ⟨S.next, backM S S' ids⟩) (freeV x && ids.all (fun i => okC N (S'.mem.get i))) : R) = _
        rw [hall, ← h4]
      · rw [← h5]
        exact List.map_congr_left fun j hj => (backM_get S S' ids j).1 hj
def maxG (x y : Value) : Operand → Value := fun z => match z with
  | .tmp 0 => x
  | _ => y
theorem max_eq (F : Operand → Value) (dst : Option Tmp) (k : Tmp) (ty : TypeId) (pos : String) (af : Array Edge) (gd : Option (Nat × Bool)) : execOp F { dst := dst, op := .call { callee := .builtin .max, args := #[.tmp k, .const (.int .i64 0)], argTypes := #[2, 2] }, type := ty, pos := pos, after := af, guard := gd } = execOp (maxG (F (.tmp k)) (F (.const (.int .i64 0)))) { dst := none, op := .call { callee := .builtin .max, args := #[.tmp 0, .tmp 1], argTypes := #[2, 2] }, type := ty, pos := "", after := #[], guard := none } := by kernel_rfl
theorem max_val (a b : Int) (ty : TypeId) : pureN Tryz.prog 4000 (execOp (maxG (.int .i64 a) (.int .i64 b)) { dst := none, op := .call { callee := .builtin .max, args := #[.tmp 0, .tmp 1], argTypes := #[2, 2] }, type := ty, pos := "", after := #[], guard := none }) = some (.int .i64 (if b > a then b else a)) := by kernel_rfl
def maxX (P : Program) (G : Gl) (f : T AV) (S : St) (o : Oper) : OR := ground P G f S o
def maxO (r : OR) (S : St) (x : Option AV) : OR := match x with
  | some (.v (.int .i64 a)) => .val (.v (.int .i64 (if 0 > a then 0 else a))) S
  | _ => r
theorem maxO_i (r : OR) (S : St) (a : Int) : maxO r S (some (.v (.int .i64 a))) = .val (.v (.int .i64 (if 0 > a then 0 else a))) S := rfl
theorem ground_max (f : T AV) (S : St) (dst : Option Tmp) (k : Tmp) (ty : TypeId) (pos : String) (af : Array Edge) (gd : Option (Nat × Bool)) :
    ground Tryz.prog (fun _ => none) f S { dst := dst, op := .call { callee := .builtin .max, args := #[.tmp k, .const (.int .i64 0)], argTypes := #[2, 2] }, type := ty, pos := pos, after := af, guard := gd } = maxO (maxX Tryz.prog (fun _ => none) f S { dst := dst, op := .call { callee := .builtin .max, args := #[.tmp k, .const (.int .i64 0)], argTypes := #[2, 2] }, type := ty, pos := pos, after := af, guard := gd }) S (f.get k) := by
  unfold maxO
  split
  · rename_i a h1
    have hg1 : groundO (fun _ => none) f (.tmp k) = some (.int .i64 a) := by unfold groundO; simp only [evalO, h1]; rfl
    have hg2 : groundO (fun _ => none) f (.const (.int .i64 0)) = some (.int .i64 0) := rfl
    unfold ground
    have hall : ((Op.call { callee := .builtin .max, args := #[.tmp k, .const (.int .i64 0)], argTypes := #[2, 2] } : Op).operands.toList.all fun x => (groundO (fun _ => none) f x).isSome) = true := by
      show ([Operand.tmp k, Operand.const (.int .i64 0)].all fun x => (groundO (fun _ => none) f x).isSome) = true
      simp only [List.all_cons, List.all_nil, hg1, hg2, Option.isSome_some, Bool.and_self]
    refine (if_pos hall).trans ?_
    rw [max_eq]
    have e1 : (groundO (fun _ => none) f (.tmp k)).getD undef = .int .i64 a := by rw [hg1]; rfl
    have e2 : (groundO (fun _ => none) f (.const (.int .i64 0))).getD undef = .int .i64 0 := by rw [hg2]; rfl
    simp only [e1, e2, max_val]
    rfl
  · rfl
/-- A row of truths that comes in. -/
def boolB (b : Bool) : AV := .v (.bool b)
def isRowB (na : AV) (bs : List Bool) : Prop := (na = .nils ∧ bs = []) ∨ ∃ tok off, na = .sl tok off 1 (bs.map boolB)
theorem u36 : Tryz.prog.underlying 38 = some (.slice 4) := by kernel_rfl
theorem e36 : elemT Tryz.prog 38 = some (none, 4) := by kernel_rfl
theorem s4 : sizeT Tryz.prog 4 = some 1 := by kernel_rfl
theorem a4 : isAggT Tryz.prog 4 = some false := by kernel_rfl
theorem len36 (S : St) {na : AV} {bs : List Bool} (h : isRowB na bs) : oLen Tryz.prog S 38 na = some bs.length := by
  rcases h with ⟨rfl, rfl⟩ | ⟨tok, off, rfl⟩ <;> simp [oLen, u36]
theorem flat_bool : ∀ l : List Bool, flat (l.map boolB) = l.map boolB
  | [] => rfl
  | x :: r => by
    have := flat_bool r
    unfold flat at this ⊢
    rw [List.map_cons, List.flatMap_cons, this]; rfl
theorem idx36 {na : AV} {bs : List Bool} (h : isRowB na bs) (i : Nat) (hi : i < bs.length) : oIndexAddr Tryz.prog 38 na (.v (.int .i64 (i : Int))) = some (.ep [boolB bs[i]]) := by
  rcases h with ⟨rfl, rfl⟩ | ⟨tok, off, rfl⟩
  · exact absurd hi (Nat.not_lt_zero _)
  · have h0 : (0 : Int) ≤ (i : Int) := by omega
    simp [oIndexAddr, h0, e36, s4, hi, boolB, AV.cells]
theorem ld4 (S : St) (x : Bool) : oLoad Tryz.prog S 4 (.ep [boolB x]) = some (.v (.bool x)) := by simp [oLoad, behind, a4, boolB]
theorem row1 (a : Int) : oBuildSlice Tryz.prog 47 1 [(0, .v (.int .i64 a))] = some (rowI 1 0 [a]) := by kernel_rfl
theorem row2 (a b : Int) : oBuildSlice Tryz.prog 47 2 [(0, .v (.int .i64 a)), (1, .v (.int .i64 b))] = some (rowI 1 0 [a, b]) := by kernel_rfl
theorem e2_i11 (N : Nat) (ids : List Nat) : (E2 N ids).I 27 = some (viaSmall E1 2000 27 N ids) := _root_.id rfl
theorem f11_some : ∃ fn, E1.F 27 = some fn := Option.isSome_iff_exists.1 (by kernel_rfl)
theorem f10_some : ∃ fn, E1.F 26 = some fn := Option.isSome_iff_exists.1 (by kernel_rfl)
theorem e2_F (N : Nat) (ids : List Nat) : (E2 N ids).F = E1.F := _root_.id rfl
end Go.Ax
