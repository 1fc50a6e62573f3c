/-
  The surroundings in which an instant of a unit is known; rows of numbers that are the same.
-/
import Derived.Test.YtgnohckncmhodaaGreatDoorSvG9
import Derived.Deep.Strs
import Derived.Deep.Grids
set_option linter.unusedVariables false
set_option linter.unusedSimpArgs false
set_option maxHeartbeats 16000000
noncomputable section
namespace Go.Ax
open Go.RowKit Go.Proofs
set_option linter.unusedVariables false
set_option linter.unusedSimpArgs false
set_option maxRecDepth 100000
/-- An instant of a unit (11) is run where there are its boxes alone. -/
def E2 (N : Nat) (ids : List Nat) : Env := { P := Tryz.prog, G := fun _ => none, F := E1.F, I := fun k => Bool.rec (E1.I k) (some (viaSmall E1 2000 27 N ids)) (Nat.beq k 27), M := rowM }
theorem e2_P (N : Nat) (ids : List Nat) : (E2 N ids).P = Tryz.prog := _root_.id rfl
theorem e2_G (N : Nat) (ids : List Nat) : (E2 N ids).G = fun _ => none := _root_.id rfl
theorem e2_ok (N : Nat) (ids : List Nat) : (E2 N ids).Ok := ⟨fun k fn h => e1_ok.fn k fn h⟩
theorem e2_mix (N : Nat) (ids : List Nat) : (E2 N ids).P.follows .mixedOrders = true := e1_mix
theorem e2_intr (N : Nat) (ids : List Nat) : IntrOk (E2 N ids) := fun k g hk base w0 args S hne γ w vs hS hg hv => by
  have hk2 : (Bool.rec (E1.I k) (some (viaSmall E1 2000 27 N ids)) (Nat.beq k 27) : Option (List AV → St → R)) = some g := hk
  cases hb : Nat.beq k 27 with
  | false =>
    rw [hb] at hk2
    exact e1_intr k g hk2 base w0 args S hne γ w vs hS hg hv
  | true =>
    rw [hb] at hk2
    injection hk2 with hk2; subst hk2
    have : k = 27 := Nat.eq_of_beq_eq_true hb
    subst this
    exact viaSmall_ok e1_ok e1_intr e1_mix rfl (by kernel_rfl) ids base w0 args S hne γ w vs hS hv
def i64A (x : Int) : AV := .v (.int .i64 x)
def rowI (tok off : Nat) (l : List Int) : AV := .sl tok off 1 (l.map i64A)
theorem u22 : Tryz.prog.underlying 47 = some (.slice 2) := by kernel_rfl
theorem e22 : elemT Tryz.prog 47 = some (none, 2) := by kernel_rfl
theorem s2 : sizeT Tryz.prog 2 = some 1 := by kernel_rfl
theorem a2 : isAggT Tryz.prog 2 = some false := by kernel_rfl
theorem neNil2 (a b : AV) : neNil Tryz.prog 2 a b = false := by
  have h : Tryz.prog.underlying 2 = some (.int .i64) := by kernel_rfl
  unfold neNil; rw [h]
theorem len22 (S : St) (tok off : Nat) (l : List Int) : oLen Tryz.prog S 47 (rowI tok off l) = some l.length := by simp [oLen, u22, rowI]
theorem flat_i64 : ∀ l : List Int, flat (l.map i64A) = l.map i64A
  | [] => rfl
  | x :: r => by
    have := flat_i64 r
    unfold flat at this ⊢
    rw [List.map_cons, List.flatMap_cons, this]; rfl
theorem idx22 (tok off : Nat) (l : List Int) (i : Nat) (h : i < l.length) : oIndexAddr Tryz.prog 47 (rowI tok off l) (.v (.int .i64 (i : Int))) = some (.ep [i64A l[i]]) := by
  have h0 : (0 : Int) ≤ (i : Int) := by omega
  simp [oIndexAddr, rowI, h0, e22, s2, h, i64A, AV.cells]
theorem ld2 (S : St) (x : Int) : oLoad Tryz.prog S 2 (.ep [i64A x]) = some (.v (.int .i64 x)) := by simp [oLoad, behind, a2, i64A]
def sameBody : Code := match Tryz.f26.body with
  | some (.seq _ (.seq _ (.seq (.seq _ (.block _ (.loop c))) _))) => c
  | _ => .skip
theorem sameBody_is : (match sameBody with | .skip => false | _ => true) = true := by kernel_rfl
section
variable {N : Nat} {ids : List Nat}
theorem same_loop (t1 o1 t2 o2 : Nat) (l : List Int) (hl : l.length ≤ 1000) (S : St) : ∀ (m i : Nat) (t : T AV), i + m = l.length → t.get 0 = some (rowI t1 o1 l) → t.get 1 = some (rowI t2 o2 l) → t.get 12 = some (intA l.length) → t.get 13 = some (intA i) →
    WX (E2 N ids) 26 (.loop sameBody) ⟨t, []⟩ S (fun r => ∃ t', r = .out (.exit 0) ⟨t', []⟩ S)
  | 0, i, t, hi, h0, h1, h12, h13 => by
    refine WX_loop (W_sound ?_)
    have hlt : ¬ ((i : Int) < (l.length : Int)) := by omega
    simp only [intA] at h12 h13
    simp only [thenW_normal, thenW_exit, thenW_ret, thenW_pan, W_skip, W_region, W_drawn, W_seq, W_cond, W_block, W_loop, W_exit, W_ret, seqQ_normal2, seqQ_exit2, seqQ_ret2, seqQ_pan2, blockW_normal2, blockW_ret2, blockW_pan2, blockW_exit2, WL_nil2, WL_cons, execL_no, execL_val2, execL_skip2, execL_enter2, execL_pan2, putL_none2, putL_some2, retL_ret2, retL_pan2, condW_t2, condW_f2, wantedA, exec1, evalO, initT, T.get_set, T.get_leaf, callA, mapO, ofOpt, ofOptS, ofConst, e2_P, e2_G, partsA, neNil3, finW_ret, finW_pan, giveW, resultsA, tupA, ground_not, notO_bool, fb_lss, fb_leq, fb_gtr, fb_geq, fb_add, fb_eqlI, fb_neqI, Nat.reduceLT, Nat.reduceAdd, Nat.reduceEqDiff, if_true, if_false, reduceIte, true_and, and_true, Option.getD_some, List.getElem?_toArray, List.getElem?_cons_succ, List.getElem?_cons_zero, Option.bind_some, List.nil_append, List.append_nil, beq_self_eq_true, Bool.false_eq_true, Bool.true_eq_false, decide_true, decide_false, Bool.not_true, Bool.not_false, Bool.false_beq, Bool.true_beq, Option.toList, List.head?_cons, List.head?_nil, WR_nil2, WR_op, WR_re2, execR_no, execR_val2, execR_skip2, execR_enter2, execR_pan2, putRW_none2, putRW_some2, retRW_ret2, retRW_pan2, fixQ_normal2, fixQ_pan2, rsOf, sameBody, Tryz.f26, h12, h13, hlt]
    exact ⟨_, rfl⟩
  | m + 1, i, t, hi, h0, h1, h12, h13 => by
    refine WX_loop (W_sound ?_)
    have hil : i < l.length := by omega
    have hlt : ((i : Int) < (l.length : Int)) := by omega
    have hx := idx22 t1 o1 l i hil
    have hy := idx22 t2 o2 l i hil
    have hw := wrap_one (i := i) (by omega)
    have hne : (l[i] != l[i]) = false := by simp
    simp only [intA] at h12 h13
    simp only [thenW_normal, thenW_exit, thenW_ret, thenW_pan, W_skip, W_region, W_drawn, W_seq, W_cond, W_block, W_loop, W_exit, W_ret, seqQ_normal2, seqQ_exit2, seqQ_ret2, seqQ_pan2, blockW_normal2, blockW_ret2, blockW_pan2, blockW_exit2, WL_nil2, WL_cons, execL_no, execL_val2, execL_skip2, execL_enter2, execL_pan2, putL_none2, putL_some2, retL_ret2, retL_pan2, condW_t2, condW_f2, wantedA, exec1, evalO, initT, T.get_set, T.get_leaf, callA, mapO, ofOpt, ofOptS, ofConst, e2_P, e2_G, partsA, neNil3, finW_ret, finW_pan, giveW, resultsA, tupA, ground_not, notO_bool, fb_lss, fb_leq, fb_gtr, fb_geq, fb_add, fb_eqlI, fb_neqI, Nat.reduceLT, Nat.reduceAdd, Nat.reduceEqDiff, if_true, if_false, reduceIte, true_and, and_true, Option.getD_some, List.getElem?_toArray, List.getElem?_cons_succ, List.getElem?_cons_zero, Option.bind_some, List.nil_append, List.append_nil, beq_self_eq_true, Bool.false_eq_true, Bool.true_eq_false, decide_true, decide_false, Bool.not_true, Bool.not_false, Bool.false_beq, Bool.true_beq, Option.toList, List.head?_cons, List.head?_nil, WR_nil2, WR_op, WR_re2, execR_no, execR_val2, execR_skip2, execR_enter2, execR_pan2, putRW_none2, putRW_some2, retRW_ret2, retRW_pan2, fixQ_normal2, fixQ_pan2, rsOf, sameBody, Tryz.f26, h12, h13, hlt]
    refine WD_by [(0, true), (1, true), (2, true), (3, true), (4, true), (5, true), (6, true), (7, true), (8, true)] (by kernel_rfl) (by kernel_rfl) ?_
    simp only [thenW_normal, thenW_exit, thenW_ret, thenW_pan, W_skip, W_region, W_drawn, W_seq, W_cond, W_block, W_loop, W_exit, W_ret, seqQ_normal2, seqQ_exit2, seqQ_ret2, seqQ_pan2, blockW_normal2, blockW_ret2, blockW_pan2, blockW_exit2, WL_nil2, WL_cons, execL_no, execL_val2, execL_skip2, execL_enter2, execL_pan2, putL_none2, putL_some2, retL_ret2, retL_pan2, condW_t2, condW_f2, wantedA, exec1, evalO, initT, T.get_set, T.get_leaf, callA, mapO, ofOpt, ofOptS, ofConst, e2_P, e2_G, partsA, neNil3, finW_ret, finW_pan, giveW, resultsA, tupA, ground_not, notO_bool, fb_lss, fb_leq, fb_gtr, fb_geq, fb_add, fb_eqlI, fb_neqI, Nat.reduceLT, Nat.reduceAdd, Nat.reduceEqDiff, if_true, if_false, reduceIte, true_and, and_true, Option.getD_some, List.getElem?_toArray, List.getElem?_cons_succ, List.getElem?_cons_zero, Option.bind_some, List.nil_append, List.append_nil, beq_self_eq_true, Bool.false_eq_true, Bool.true_eq_false, decide_true, decide_false, Bool.not_true, Bool.not_false, Bool.false_beq, Bool.true_beq, Option.toList, List.head?_cons, List.head?_nil, WR_nil2, WR_op, WR_re2, execR_no, execR_val2, execR_skip2, execR_enter2, execR_pan2, putRW_none2, putRW_some2, retRW_ret2, retRW_pan2, fixQ_normal2, fixQ_pan2, rsOf, h0, h1, h13, hx, hy, ld2, neNil2, hne, hw]
    refine WX.mono (same_loop t1 o1 t2 o2 l hl S m (i + 1) _ (by omega) ?_ ?_ ?_ ?_) (fun r h => h)
    · simp only [T.get_set, Nat.reduceEqDiff, if_false, h0]
    · simp only [T.get_set, Nat.reduceEqDiff, if_false, h1]
    · simp only [T.get_set, Nat.reduceEqDiff, if_false, h12]; rfl
    · simp only [T.get_set, Nat.reduceEqDiff, if_true]; rfl
theorem same_w (t1 o1 t2 o2 : Nat) (l : List Int) (hl : l.length ≤ 1000) (S : St) : WC (E2 N ids) 26 [rowI t1 o1 l, rowI t2 o2 l] S (fun r => r = .ret (.v (.int .i64 0)) S) := by
  refine WC_fn Tryz.f26 (by kernel_rfl) (by kernel_rfl) (by kernel_rfl) (show (_ : Nat) ≤ _ from by show (_ : Nat) ≤ _; simp [Tryz.f26]) ?_
  have hne : (((l.length : Nat) : Int) != ((l.length : Nat) : Int)) = false := by simp
  have hl1 := len22 S t1 o1 l
  have hl2 := len22 S t2 o2 l
  simp only [thenW_normal, thenW_exit, thenW_ret, thenW_pan, W_skip, W_region, W_drawn, W_seq, W_cond, W_block, W_loop, W_exit, W_ret, seqQ_normal2, seqQ_exit2, seqQ_ret2, seqQ_pan2, blockW_normal2, blockW_ret2, blockW_pan2, blockW_exit2, WL_nil2, WL_cons, execL_no, execL_val2, execL_skip2, execL_enter2, execL_pan2, putL_none2, putL_some2, retL_ret2, retL_pan2, condW_t2, condW_f2, wantedA, exec1, evalO, initT, T.get_set, T.get_leaf, callA, mapO, ofOpt, ofOptS, ofConst, e2_P, e2_G, partsA, neNil3, finW_ret, finW_pan, giveW, resultsA, tupA, ground_not, notO_bool, fb_lss, fb_leq, fb_gtr, fb_geq, fb_add, fb_eqlI, fb_neqI, Nat.reduceLT, Nat.reduceAdd, Nat.reduceEqDiff, if_true, if_false, reduceIte, true_and, and_true, Option.getD_some, List.getElem?_toArray, List.getElem?_cons_succ, List.getElem?_cons_zero, Option.bind_some, List.nil_append, List.append_nil, beq_self_eq_true, Bool.false_eq_true, Bool.true_eq_false, decide_true, decide_false, Bool.not_true, Bool.not_false, Bool.false_beq, Bool.true_beq, Option.toList, List.head?_cons, List.head?_nil, WR_nil2, WR_op, WR_re2, execR_no, execR_val2, execR_skip2, execR_enter2, execR_pan2, putRW_none2, putRW_some2, retRW_ret2, retRW_pan2, fixQ_normal2, fixQ_pan2, rsOf, Tryz.f26, hl1, hl2, hne]
  refine WX.mono (same_loop t1 o1 t2 o2 l hl S l.length 0 _ (by omega) ?_ ?_ ?_ ?_) ?_
  · simp [T.get_set]
  · simp [T.get_set]
  · simp [T.get_set, intA]
  · simp [T.get_set, intA]
  rintro _ ⟨t', rfl⟩
  simp only [thenW_normal, thenW_exit, thenW_ret, thenW_pan, W_skip, W_region, W_drawn, W_seq, W_cond, W_block, W_loop, W_exit, W_ret, seqQ_normal2, seqQ_exit2, seqQ_ret2, seqQ_pan2, blockW_normal2, blockW_ret2, blockW_pan2, blockW_exit2, WL_nil2, WL_cons, execL_no, execL_val2, execL_skip2, execL_enter2, execL_pan2, putL_none2, putL_some2, retL_ret2, retL_pan2, condW_t2, condW_f2, wantedA, exec1, evalO, initT, T.get_set, T.get_leaf, callA, mapO, ofOpt, ofOptS, ofConst, e2_P, e2_G, partsA, neNil3, finW_ret, finW_pan, giveW, resultsA, tupA, ground_not, notO_bool, fb_lss, fb_leq, fb_gtr, fb_geq, fb_add, fb_eqlI, fb_neqI, Nat.reduceLT, Nat.reduceAdd, Nat.reduceEqDiff, if_true, if_false, reduceIte, true_and, and_true, Option.getD_some, List.getElem?_toArray, List.getElem?_cons_succ, List.getElem?_cons_zero, Option.bind_some, List.nil_append, List.append_nil, beq_self_eq_true, Bool.false_eq_true, Bool.true_eq_false, decide_true, decide_false, Bool.not_true, Bool.not_false, Bool.false_beq, Bool.true_beq, Option.toList, List.head?_cons, List.head?_nil, WR_nil2, WR_op, WR_re2, execR_no, execR_val2, execR_skip2, execR_enter2, execR_pan2, putRW_none2, putRW_some2, retRW_ret2, retRW_pan2, fixQ_normal2, fixQ_pan2, rsOf, Tryz.f26]
end
end Go.Ax
noncomputable section
namespace Go.Ax
open Go.RowKit Go.Proofs
set_option linter.unusedVariables false
set_option linter.unusedSimpArgs false
set_option maxRecDepth 100000
/-- A frame of which some places are known. -/
def frL (l : List (Nat × AV)) : T AV := l.foldr (fun p f => f.set p.1 (some p.2)) .leaf
theorem frL_ok {γ : Gh} {w : World} {tmps : Array Value} : ∀ l : List (Nat × AV), (∀ p ∈ l, ∃ v, tmps[p.1]? = some v ∧ VR γ w p.2 v) → FR γ w (frL l) tmps
  | [], _ => fun t a h => by
    have h : (T.leaf : T AV).get t = some a := h
    rw [T.get_leaf] at h; cases h
  | p :: l, hp => fun t a h => by
    have hq : ((frL l).set p.1 (some p.2)).get t = some a := h
    rw [T.get_set] at hq
    split at hq
    · rename_i e; subst e
      injection hq with hq2; subst hq2
      obtain ⟨v, h1, h2⟩ := hp p (List.mem_cons_self ..)
      obtain ⟨hl, he⟩ := Array.getElem?_eq_some_iff.1 h1
      exact ⟨hl, by simp only [Array.getD_eq_getD_getElem?, h1, Option.getD_some]; exact h2⟩
    · exact frL_ok l (fun q hqq => hp q (List.mem_cons_of_mem _ hqq)) t a hq
/-- All that lies in memory is known to stay. -/
def GhW (w : World) : Gh := { loc := fun _ => none, im := fun b o => b < w.heap.size ∧ ∃ v, w.cell? ⟨b, o, none⟩ = some v }
theorem SR.whole (w : World) : SR w.heap.size w (GhW w) St0 w :=
  ⟨.refl _ _, Nat.le_refl _, fun _ _ h => h.2, fun _ _ => ⟨rfl, rfl⟩, Nat.le_refl _, fun _ _ _ h => (by cases h), fun _ _ h => (by cases h), fun _ _ _ _ _ _ _ h => (by cases h)⟩
end Go.Ax
noncomputable section
namespace Go.Ax
open Go.RowKit Go.Proofs
set_option linter.unusedVariables false
set_option linter.unusedSimpArgs false
set_option maxRecDepth 100000
/-- What a run leaves, where it comes to its end. -/
def outF : O → T AV
  | .out _ f _ => f.tmps
  | .fail => .leaf
def outS : O → St
  | .out _ _ S => S
  | .fail => St0
def lookO (ids ts : List Nat) : O → Option (Nat × List (Option AV) × List (Option Cell))
  | .out e f S => match e with
    | .normal => match f.dfr with
      | [] => some (S.next, ts.map f.tmps.get, ids.map S.mem.get)
      | _ => none
    | _ => none
  | .fail => none
theorem lookO_spec {ids ts : List Nat} {r : O} {n : Nat} {vs : List (Option AV)} {cs : List (Option Cell)} (h : lookO ids ts r = some (n, vs, cs)) : r = .out .normal ⟨outF r, []⟩ (outS r) ∧ (outS r).next = n ∧ ts.map (outF r).get = vs ∧ ids.map (outS r).mem.get = cs := by
  cases r with
  | fail => cases h
  | out e f S =>
    obtain ⟨t, d⟩ := f
    cases e with
    | normal =>
      cases d with
      | nil =>
        simp only [lookO] at h
        injection h with h; injection h with h1 h; injection h with h2 h3
        exact ⟨rfl, h1, h2, h3⟩
      | cons a r => cases h
    | exit i => cases h
    | ret => cases h
    | pan a => cases h
/-- Code that is known to come to its end. -/
theorem codeX_norm {E : Env} (hE : E.Ok) (hI : IntrOk E) (hmix : E.P.follows .mixedOrders = true) (hG : E.G = fun _ => none) {m n : Nat} {c : Code} {f : T AV} {S : St} {r : O} (hr : (comp E n c none).c (callX E m) f [] S = r) (h : r = .out .normal ⟨outF r, []⟩ (outS r)) {Q : Exit → Act → World → Prop} {K : Act → World → Prop} {act : Act} {γ : Gh} {base : Nat} {w0 w : World}
    (hS : SR base w0 γ S w) (hf : FR γ w f act.tmps) (hn : act.tmps.size = n) (hd : act.defers = [])
    (hQ : ∀ act' w' γ', act'.tmps.size = n → act'.defers = [] → SR base w0 γ' (outS r) w' → FR γ' w' (outF r) act'.tmps → K act' w') : c.wp E.P (Exit.then K Q) act w := by
  rcases comp_ok (E := E) (n := n) (callX_F m) c none f [] S with h0 | ⟨j, h0⟩
  · rw [hr, h] at h0; cases h0
  rw [hr] at h0
  have h0 : runC E (drawnNew E) (callX E m) j n c ⟨f, []⟩ S = r := h0
  refine (runC_sound hE (drawnNew_ok hE hmix) (callX_ok hE hI hmix m) j).code base w0 (Exit.then K Q) n c γ S w ⟨f, []⟩ act hS ⟨hf, hn, by rw [hd]; trivial⟩ (by rw [hG]; exact GR.none) ?_
  rw [h0, h]
  intro γ' act' w' h1 h2 h3
  have hd' : act'.defers = [] := by
    have hdd := h3.dfr
    cases hx : act'.defers with
    | nil => rfl
    | cons a r => rw [hx] at hdd; exact hdd.elim
  exact hQ act' w' γ' h3.size hd' h1 h3.tmps
def seeR (ids : List Nat) : R → Option (AV × List (Option Cell))
  | .ret a S => Bool.rec none (some (clean a, ids.map S.mem.get)) (freeV a)
  | _ => none
theorem via_eq {k N : Nat} {ids : List Nat} {args : List AV} {S : St} {a : AV} {cs : List (Option Cell)} (h1 : smallIn N ids args S = true) (h2 : seeR ids (callX E1 2000 k args ⟨N, subM S ids⟩) = some (a, cs)) (h3 : cs.all (okC N) = true) :
    ∃ S', viaSmall E1 2000 k N ids args S = .ret a S' ∧ S'.next = S.next ∧ (∀ j, j ∉ ids → S'.mem.get j = S.mem.get j) ∧ ids.map S'.mem.get = cs := by
  unfold viaSmall
  rw [h1]
  cases hr : callX E1 2000 k args ⟨N, subM S ids⟩ with
  | fail => rw [hr] at h2; cases h2
  | pan x S' => rw [hr] at h2; cases h2
  | ret x S' =>
    rw [hr] at h2
    cases hf : freeV x with
    | false => simp only [seeR, hf] at h2; cases h2
    | true =>
      simp only [seeR, hf] at h2
      injection h2 with h2; injection h2 with h4 h5
      have hall : (freeV x && ids.all (fun i => okC N (S'.mem.get i))) = true := by
        rw [hf, Bool.true_and, List.all_eq_true]
        intro i hi
        rw [← h5, List.all_eq_true] at h3
        exact h3 _ (List.mem_map.2 ⟨i, hi, rfl⟩)
      refine ⟨⟨S.next, backM S S' ids⟩, ?_, rfl, fun j hj => (backM_get S S' ids j).2 hj, ?_⟩
      · show (Bool.rec R.fail (R.ret (clean x) ⟨S.next, backM S S' ids⟩) (freeV x && ids.all (fun i => okC N (S'.mem.get i))) : R) = _
        rw [hall, ← h4]
      · rw [← h5]
        exact List.map_congr_left fun j hj => (backM_get S S' ids j).1 hj
def maxG (x y : Value) : Operand → Value := fun z => match z with
  | .tmp 0 => x
  | _ => y
theorem max_eq (F : Operand → Value) (dst : Option Tmp) (k : Tmp) (ty : TypeId) (pos : String) (af : Array Edge) (gd : Option (Nat × Bool)) : execOp F { dst := dst, op := .call { callee := .builtin .max, args := #[.tmp k, .const (.int .i64 0)], argTypes := #[2, 2] }, type := ty, pos := pos, after := af, guard := gd } = execOp (maxG (F (.tmp k)) (F (.const (.int .i64 0)))) { dst := none, op := .call { callee := .builtin .max, args := #[.tmp 0, .tmp 1], argTypes := #[2, 2] }, type := ty, pos := "", after := #[], guard := none } := by kernel_rfl
theorem max_val (a b : Int) (ty : TypeId) : pureN Tryz.prog 4000 (execOp (maxG (.int .i64 a) (.int .i64 b)) { dst := none, op := .call { callee := .builtin .max, args := #[.tmp 0, .tmp 1], argTypes := #[2, 2] }, type := ty, pos := "", after := #[], guard := none }) = some (.int .i64 (if b > a then b else a)) := by kernel_rfl
def maxX (P : Program) (G : Gl) (f : T AV) (S : St) (o : Oper) : OR := ground P G f S o
def maxO (r : OR) (S : St) (x : Option AV) : OR := match x with
  | some (.v (.int .i64 a)) => .val (.v (.int .i64 (if 0 > a then 0 else a))) S
  | _ => r
theorem maxO_i (r : OR) (S : St) (a : Int) : maxO r S (some (.v (.int .i64 a))) = .val (.v (.int .i64 (if 0 > a then 0 else a))) S := rfl
theorem ground_max (f : T AV) (S : St) (dst : Option Tmp) (k : Tmp) (ty : TypeId) (pos : String) (af : Array Edge) (gd : Option (Nat × Bool)) :
    ground Tryz.prog (fun _ => none) f S { dst := dst, op := .call { callee := .builtin .max, args := #[.tmp k, .const (.int .i64 0)], argTypes := #[2, 2] }, type := ty, pos := pos, after := af, guard := gd } = maxO (maxX Tryz.prog (fun _ => none) f S { dst := dst, op := .call { callee := .builtin .max, args := #[.tmp k, .const (.int .i64 0)], argTypes := #[2, 2] }, type := ty, pos := pos, after := af, guard := gd }) S (f.get k) := by
  unfold maxO
  split
  · rename_i a h1
    have hg1 : groundO (fun _ => none) f (.tmp k) = some (.int .i64 a) := by unfold groundO; simp only [evalO, h1]; rfl
    have hg2 : groundO (fun _ => none) f (.const (.int .i64 0)) = some (.int .i64 0) := rfl
    unfold ground
    have hall : ((Op.call { callee := .builtin .max, args := #[.tmp k, .const (.int .i64 0)], argTypes := #[2, 2] } : Op).operands.toList.all fun x => (groundO (fun _ => none) f x).isSome) = true := by
      show ([Operand.tmp k, Operand.const (.int .i64 0)].all fun x => (groundO (fun _ => none) f x).isSome) = true
      simp only [List.all_cons, List.all_nil, hg1, hg2, Option.isSome_some, Bool.and_self]
    refine (if_pos hall).trans ?_
    rw [max_eq]
    have e1 : (groundO (fun _ => none) f (.tmp k)).getD undef = .int .i64 a := by rw [hg1]; rfl
    have e2 : (groundO (fun _ => none) f (.const (.int .i64 0))).getD undef = .int .i64 0 := by rw [hg2]; rfl
    simp only [e1, e2, max_val]
    rfl
  · rfl
/-- A row of truths that comes in. -/
def boolB (b : Bool) : AV := .v (.bool b)
def isRowB (na : AV) (bs : List Bool) : Prop := (na = .nils ∧ bs = []) ∨ ∃ tok off, na = .sl tok off 1 (bs.map boolB)
theorem u36 : Tryz.prog.underlying 38 = some (.slice 4) := by kernel_rfl
theorem e36 : elemT Tryz.prog 38 = some (none, 4) := by kernel_rfl
theorem s4 : sizeT Tryz.prog 4 = some 1 := by kernel_rfl
theorem a4 : isAggT Tryz.prog 4 = some false := by kernel_rfl
theorem len36 (S : St) {na : AV} {bs : List Bool} (h : isRowB na bs) : oLen Tryz.prog S 38 na = some bs.length := by
  rcases h with ⟨rfl, rfl⟩ | ⟨tok, off, rfl⟩ <;> simp [oLen, u36]
theorem flat_bool : ∀ l : List Bool, flat (l.map boolB) = l.map boolB
  | [] => rfl
  | x :: r => by
    have := flat_bool r
    unfold flat at this ⊢
    rw [List.map_cons, List.flatMap_cons, this]; rfl
theorem idx36 {na : AV} {bs : List Bool} (h : isRowB na bs) (i : Nat) (hi : i < bs.length) : oIndexAddr Tryz.prog 38 na (.v (.int .i64 (i : Int))) = some (.ep [boolB bs[i]]) := by
  rcases h with ⟨rfl, rfl⟩ | ⟨tok, off, rfl⟩
  · exact absurd hi (Nat.not_lt_zero _)
  · have h0 : (0 : Int) ≤ (i : Int) := by omega
    simp [oIndexAddr, h0, e36, s4, hi, boolB, AV.cells]
theorem ld4 (S : St) (x : Bool) : oLoad Tryz.prog S 4 (.ep [boolB x]) = some (.v (.bool x)) := by simp [oLoad, behind, a4, boolB]
theorem row1 (a : Int) : oBuildSlice Tryz.prog 47 1 [(0, .v (.int .i64 a))] = some (rowI 1 0 [a]) := by kernel_rfl
theorem row2 (a b : Int) : oBuildSlice Tryz.prog 47 2 [(0, .v (.int .i64 a)), (1, .v (.int .i64 b))] = some (rowI 1 0 [a, b]) := by kernel_rfl
theorem e2_i11 (N : Nat) (ids : List Nat) : (E2 N ids).I 27 = some (viaSmall E1 2000 27 N ids) := _root_.id rfl
theorem f11_some : ∃ fn, E1.F 27 = some fn := Option.isSome_iff_exists.1 (by kernel_rfl)
theorem f10_some : ∃ fn, E1.F 26 = some fn := Option.isSome_iff_exists.1 (by kernel_rfl)
theorem e2_F (N : Nat) (ids : List Nat) : (E2 N ids).F = E1.F := _root_.id rfl
end Go.Ax
noncomputable section
namespace Go.Ax
open Go.RowKit Go.Proofs Go.WideShapes
set_option linter.unusedVariables false
set_option linter.unusedSimpArgs false
set_option maxRecDepth 100000
theorem solo_awake (w : World) : Calls Tryz.prog 24 #[] w fun e w' => e = .returned (.bool true) ∧ Below w.heap.size w w' :=
  callsX_true (E := E1) e1_ok e1_intr e1_mix rfl (m := 2000) (k := 24) (args := []) (by kernel_rfl) (by kernel_rfl) (vs := []) ⟨rfl, fun k hk => by cases hk⟩
theorem off_le {p : Program} {fits : TypeId → Bool} : ∀ {d : Nat} {e : TypeId} {count off n : Nat}, Go.rowAt p fits d e count off n = true → off ≤ count * p.cellsOf e
  | 0, e, count, off, n, h => by simp [Go.rowAt] at h
  | d + 1, e, count, off, n, h => by
    unfold Go.rowAt at h
    simp only at h
    split at h
    · cases h
    · rename_i hs
      have hp : 0 < p.cellsOf e := Nat.pos_of_ne_zero hs
      have h1 : off / p.cellsOf e ≤ count ∧ (off % p.cellsOf e = 0 ∨ off / p.cellsOf e < count) := by
        simp only [Bool.or_eq_true, Bool.and_eq_true, beq_iff_eq, decide_eq_true_eq] at h
        rcases h with ⟨⟨h1, h2⟩, _⟩ | ⟨h1, _⟩
        · exact ⟨by omega, .inl h1⟩
        · exact ⟨by omega, .inr h1⟩
      have hdm := Nat.div_add_mod off (p.cellsOf e)
      have hml := Nat.mod_lt off hp
      rcases h1 with ⟨h1, h2 | h2⟩
      · rw [h2, Nat.add_zero] at hdm
        rw [← hdm, Nat.mul_comm]
        exact Nat.mul_le_mul_right _ h1
      · have h3 : (off / p.cellsOf e + 1) * p.cellsOf e ≤ count * p.cellsOf e := Nat.mul_le_mul_right _ h2
        rw [Nat.add_mul, Nat.one_mul, Nat.mul_comm (off / p.cellsOf e)] at h3
        omega
theorem lies_le {p : Program} : ∀ {d : Nat} {e : TypeId} {count off : Nat} {u : TypeId} {n : Nat}, liesAt p d e count off u n = true → off ≤ count * p.cellsOf e
  | 0, e, count, off, u, n, h => by simp [liesAt] at h
  | d + 1, e, count, off, u, n, h => by
    unfold liesAt at h
    rw [Bool.or_eq_true] at h
    rcases h with h | h
    · exact off_le h
    · split at h
      · exact lies_le h
      · cases h
theorem has_off {P : Program} {W : World} {base : Nat} {a : Addr} {e : TypeId} {n : Nat} (h : W.has P .any base a e n) : ∃ b o arr T fr, a = ⟨b, o, none⟩ ∧ W.heap[b]? = some (Obj.cells arr T fr) ∧ o ≤ arr.size := by
  obtain ⟨_, hs, row, cells, h1, h2⟩ := h
  obtain ⟨b, o, spot⟩ := a
  simp only at hs
  subst hs
  simp only [World.shape?] at h1
  split at h1
  · rename_i c el fr he
    simp only [Option.some.injEq, Prod.mk.injEq] at h1
    obtain ⟨rfl, rfl⟩ := h1
    refine ⟨b, o, c, _, fr, rfl, he, ?_⟩
    have := lies_le h2
    exact Nat.le_trans this (Nat.div_mul_le_self _ _)
  · cases h1
theorem cell_bound {W : World} {b o : Nat} {arr : Array Value} {T : TypeId} {fr : Nat × Nat} {v : Value} (ha : W.heap[b]? = some (Obj.cells arr T fr)) (h : W.cell? ⟨b, o, none⟩ = some v) : o < arr.size := by
  unfold World.cell? at h
  rw [ha] at h
  simp only [Option.isSome_none, Bool.false_eq_true, if_false] at h
  exact (Array.getElem?_eq_some_iff.1 h).1
theorem row_in {W w1 : World} (hb : Below W.heap.size W w1) {b o len cap : Nat} {arr : Array Value} {T : TypeId} {fr : Nat × Nat} (ha : W.heap[b]? = some (Obj.cells arr T fr)) (hz : o + cap ≤ arr.size) (hl : len ≤ cap) (V : Nat → Value) (hsc : ∀ i, scalar (V i) = true)
    (hcell : ∀ i, i < len → W.cell? ⟨b, o + i, none⟩ = some (V i)) : VR (GhW w1) w1 (.sl 0 0 1 ((List.range len).map fun i => .v (V i))) (.slice (some ⟨b, o, none⟩) len cap) := by
  have hlt : b < W.heap.size := (Array.getElem?_eq_some_iff.1 ha).1
  have hk : w1.heap[b]? = W.heap[b]? := hb.block b hlt
  have hlt1 : b < w1.heap.size := Nat.lt_of_lt_of_le hlt hb.size
  have hc1 : ∀ i, i < len → w1.cell? ⟨b, o + i, none⟩ = some (V i) := fun i hi => by
    rw [← hcell i hi]
    unfold World.cell?
    simp only [hk]
  have hfl : ∀ l : List Nat, flat (l.map fun i => AV.v (V i)) = l.map fun i => AV.v (V i) := fun l => by
    induction l with
    | nil => rfl
    | cons x r ih =>
      show AV.cells (AV.v (V x)) ++ flat (r.map fun i => AV.v (V i)) = _
      rw [ih]; rfl
  have hmain : VR (GhW w1) w1 (.sl 0 0 1 ((List.range len).map fun i => .v (V i))) (.slice (some ⟨b, o, none⟩) ((List.range len).map fun i => AV.v (V i)).length cap) := by
    refine .sl 0 0 1 _ b o cap V (by omega) (fun e he => ?_) (fun x hx => ?_) (fun k hk => ?_) (fun k hk => ?_) (fun h => absurd h (by omega)) (fun h => absurd h (by omega)) (by simpa using hl) ⟨arr, T, fr, by rw [hk]; exact ha, by simpa using hz⟩
    · obtain ⟨s, _, rfl⟩ := List.mem_map.1 he; rfl
    · rw [hfl] at hx; obtain ⟨s, _, rfl⟩ := List.mem_map.1 hx; rfl
    · rw [hfl] at hk
      have hk2 : k < len := by simpa using hk
      exact ⟨⟨hlt1, _, hc1 k hk2⟩, hc1 k hk2⟩
    · have hk2 : k < len := by rw [hfl] at hk; simpa using hk
      have e1 : (flat ((List.range len).map fun i => AV.v (V i)))[k] = AV.v (V k) := by
        simp only [hfl, List.getElem_map, List.getElem_range]
      rw [e1]
      exact .v _ (hsc k)
  simpa using hmain
theorem u4 : Tryz.prog.underlying 4 = some .bool := by kernel_rfl
theorem c4 : Tryz.prog.cellsOf 4 = 1 := by kernel_rfl
def BoolIn (W : World) (v : Value) : Prop := ∃ (ss : List Bool) (na : AV), isRowB na ss ∧ ∀ w1, Below W.heap.size W w1 → VR (GhW w1) w1 na v
theorem bools_in {H : Type} {enc : TypeId × Value → H} {W : World} {base fuel : Nat} {a0 : Option Addr} {len cap : Nat} {x : DataW H × List MemPlace} (hok : Value.okWide Tryz.prog W .any base 38 (.slice a0 len cap))
    (hf : DataW.trod enc Tryz.prog W 0 (fun _ => true) true fuel 38 (Value.slice a0 len cap).cells.toList = some x) : BoolIn W (.slice a0 len cap) := by
  rcases Go.Deep.open_bools u36 u4 c4 hf with ⟨hcs, hx⟩ | ⟨a, len', cap', V, hcs, _, hl, hm, hx, hcell⟩
  · simp [Value.cells] at hcs
    obtain ⟨rfl, rfl, rfl⟩ := hcs
    exact ⟨[], .nils, .inl ⟨rfl, rfl⟩, fun _ _ => .nils⟩
  · simp [Value.cells] at hcs
    obtain ⟨rfl, rfl, rfl⟩ := hcs
    simp only [Value.okWide, u36, Cell.okWide, Cell.ok] at hok
    obtain ⟨b, o, arr, T, fr, rfl, ha, ho⟩ := has_off hok.2.2
    have hc : ∀ i, i < cap → W.cell? ⟨b, o + i, none⟩ = some (.bool (V i)) := fun i hi => by rw [← Go.WideShapes.add_plain]; exact hcell i hi
    have hsz : o + cap ≤ arr.size := by
      by_cases h0 : cap = 0
      · omega
      · have := cell_bound ha (hc (cap - 1) (by omega)); omega
    refine ⟨(List.range len).map V, .sl 0 0 1 ((List.range len).map fun i => .v (.bool (V i))), .inr ⟨0, 0, by simp [boolB, Function.comp_def]⟩, fun w1 hb => row_in hb ha hsz hl (fun i => .bool (V i)) (fun _ => rfl) (fun i hi => hc i (by omega))⟩
end Go.Ax
noncomputable section
namespace Go.Ax
open Go.RowKit Go.Proofs
set_option linter.unusedVariables false
set_option linter.unusedSimpArgs false
set_option maxRecDepth 100000
/-- A row of numbers that comes in. -/
def isRowI (na : AV) (l : List Int) : Prop := (na = .nils ∧ l = []) ∨ na = rowI 0 0 l
theorem len22' (S : St) {na : AV} {l : List Int} (h : isRowI na l) : oLen Tryz.prog S 47 na = some l.length := by
  rcases h with ⟨rfl, rfl⟩ | rfl
  · simp [oLen, u22]
  · exact len22 S 0 0 l
def srRest : Code := match Tryz.f7.body with
  | some (.seq _ (.seq _ (.seq _ (.seq _ (.seq _ (.seq _ (.seq _ (.seq _ a)))))))) => a
  | _ => .skip
def srBody : Code := match srRest with
  | .seq _ (.seq _ (.seq _ (.seq _ (.seq (.seq _ (.block _ (.loop c))) _)))) => c
  | _ => .skip
theorem srBody_is : (match srBody with | .skip => false | _ => true) = true := by kernel_rfl
/-- What is to come out. -/
def wantD (d i : Nat) (a b : Int) : Int := if i < d then 7 else IntKind.i64.wrap (a + b)
/-- A unit that does as it should, so many instants long. -/
def Does (N obj : Nat) (ids : List Nat) (na : AV) (d : Nat) (a b : Int) (Inv : Nat → St → Prop) : Prop :=
  ∀ i S, i < 12 → Inv i S → ∃ S', viaSmall E1 2000 27 N ids [.ptr obj 0, na] S = .ret (rowI 0 0 [wantD d i a b, a]) S' ∧ Inv (i + 1) S'
theorem sr_loop (N obj : Nat) (ids : List Nat) (na : AV) (d : Nat) (a b : Int) (Inv : Nat → St → Prop) (hdo : Does N obj ids na d a b Inv) : ∀ (m i : Nat) (t : T AV) (S : St), i + m = 12 → Inv i S → t.get 0 = some na → t.get 1 = some (.v (.int .i64 (d : Int))) → t.get 8 = some (.ptr obj 0) → t.get 10 = some (.v (.int .i64 a)) → t.get 11 = some (.v (.int .i64 b)) → t.get 57 = some (.v (.int .i64 (i : Int))) →
    WX (E2 N ids) 75 (.loop srBody) ⟨t, []⟩ S (fun r => ∃ t' S', r = .out (.exit 2) ⟨t', []⟩ S')
  | 0, i, t, S, hi, hS, h0, h1, h8, h10, h11, h57 => by
    refine WX_loop (W_sound ?_)
    have hlt : ¬ ((i : Int) < 12) := by omega
    simp only [thenW_normal, thenW_exit, thenW_ret, thenW_pan, W_skip, W_region, W_drawn, W_seq, W_cond, W_block, W_loop, W_exit, W_ret, seqQ_normal2, seqQ_exit2, seqQ_ret2, seqQ_pan2, blockW_normal2, blockW_ret2, blockW_pan2, blockW_exit2, WL_nil2, WL_cons, execL_no, execL_val2, execL_skip2, execL_enter2, execL_pan2, putL_none2, putL_some2, retL_ret2, retL_pan2, condW_t2, condW_f2, wantedA, exec1, evalO, initT, T.get_set, T.get_leaf, callA, mapO, ofOpt, ofOptS, ofConst, e2_P, e2_G, partsA, neNil3, finW_ret, finW_pan, giveW, resultsA, tupA, ground_not, notO_bool, fb_lss, fb_leq, fb_gtr, fb_geq, fb_add, fb_eqlI, fb_neqI, Nat.reduceLT, Nat.reduceAdd, Nat.reduceEqDiff, if_true, if_false, reduceIte, true_and, and_true, Option.getD_some, List.getElem?_toArray, List.getElem?_cons_succ, List.getElem?_cons_zero, Option.bind_some, List.nil_append, List.append_nil, beq_self_eq_true, Bool.false_eq_true, Bool.true_eq_false, decide_true, decide_false, Bool.not_true, Bool.not_false, Bool.false_beq, Bool.true_beq, Option.toList, List.head?_cons, List.head?_nil, WR_nil2, WR_op, WR_re2, execR_no, execR_val2, execR_skip2, execR_enter2, execR_pan2, putRW_none2, putRW_some2, retRW_ret2, retRW_pan2, fixQ_normal2, fixQ_pan2, rsOf, srBody, srRest, Tryz.f7, h57, hlt]
    exact ⟨_, _, rfl⟩
  | m + 1, i, t, S, hi, hS, h0, h1, h8, h10, h11, h57 => by
    refine WX_loop (W_sound ?_)
    have hlt : ((i : Int) < 12) := by omega
    obtain ⟨fn11, hf11⟩ := f11_some
    obtain ⟨fn10, hf10⟩ := f10_some
    have hw := wrap_one (i := i) (by omega)
    obtain ⟨S', hr, hS'⟩ := hdo i S (by omega) hS
    have hne0 : ((0 : Int) != 0) = false := rfl
    by_cases hd : i < d
    · have hge : ¬ ((i : Int) ≥ (d : Int)) := by omega
      have hwant : wantD d i a b = 7 := by unfold wantD; rw [if_pos hd]
      rw [hwant] at hr
      simp only [thenW_normal, thenW_exit, thenW_ret, thenW_pan, W_skip, W_region, W_drawn, W_seq, W_cond, W_block, W_loop, W_exit, W_ret, seqQ_normal2, seqQ_exit2, seqQ_ret2, seqQ_pan2, blockW_normal2, blockW_ret2, blockW_pan2, blockW_exit2, WL_nil2, WL_cons, execL_no, execL_val2, execL_skip2, execL_enter2, execL_pan2, putL_none2, putL_some2, retL_ret2, retL_pan2, condW_t2, condW_f2, wantedA, exec1, evalO, initT, T.get_set, T.get_leaf, callA, mapO, ofOpt, ofOptS, ofConst, e2_P, e2_G, partsA, neNil3, finW_ret, finW_pan, giveW, resultsA, tupA, ground_not, notO_bool, fb_lss, fb_leq, fb_gtr, fb_geq, fb_add, fb_eqlI, fb_neqI, Nat.reduceLT, Nat.reduceAdd, Nat.reduceEqDiff, if_true, if_false, reduceIte, true_and, and_true, Option.getD_some, List.getElem?_toArray, List.getElem?_cons_succ, List.getElem?_cons_zero, Option.bind_some, List.nil_append, List.append_nil, beq_self_eq_true, Bool.false_eq_true, Bool.true_eq_false, decide_true, decide_false, Bool.not_true, Bool.not_false, Bool.false_beq, Bool.true_beq, Option.toList, List.head?_cons, List.head?_nil, WR_nil2, WR_op, WR_re2, execR_no, execR_val2, execR_skip2, execR_enter2, execR_pan2, putRW_none2, putRW_some2, retRW_ret2, retRW_pan2, fixQ_normal2, fixQ_pan2, rsOf, srBody, srRest, Tryz.f7, h0, h1, h8, h10, h11, h57, hlt, hge, e2_F, hf10, hf11, neNil2, row2, hw, hne0]
      refine WC_known (e2_i11 ..) ?_
      rw [hr]
      simp only [thenW_normal, thenW_exit, thenW_ret, thenW_pan, W_skip, W_region, W_drawn, W_seq, W_cond, W_block, W_loop, W_exit, W_ret, seqQ_normal2, seqQ_exit2, seqQ_ret2, seqQ_pan2, blockW_normal2, blockW_ret2, blockW_pan2, blockW_exit2, WL_nil2, WL_cons, execL_no, execL_val2, execL_skip2, execL_enter2, execL_pan2, putL_none2, putL_some2, retL_ret2, retL_pan2, condW_t2, condW_f2, wantedA, exec1, evalO, initT, T.get_set, T.get_leaf, callA, mapO, ofOpt, ofOptS, ofConst, e2_P, e2_G, partsA, neNil3, finW_ret, finW_pan, giveW, resultsA, tupA, ground_not, notO_bool, fb_lss, fb_leq, fb_gtr, fb_geq, fb_add, fb_eqlI, fb_neqI, Nat.reduceLT, Nat.reduceAdd, Nat.reduceEqDiff, if_true, if_false, reduceIte, true_and, and_true, Option.getD_some, List.getElem?_toArray, List.getElem?_cons_succ, List.getElem?_cons_zero, Option.bind_some, List.nil_append, List.append_nil, beq_self_eq_true, Bool.false_eq_true, Bool.true_eq_false, decide_true, decide_false, Bool.not_true, Bool.not_false, Bool.false_beq, Bool.true_beq, Option.toList, List.head?_cons, List.head?_nil, WR_nil2, WR_op, WR_re2, execR_no, execR_val2, execR_skip2, execR_enter2, execR_pan2, putRW_none2, putRW_some2, retRW_ret2, retRW_pan2, fixQ_normal2, fixQ_pan2, rsOf, srBody, srRest, Tryz.f7, h0, h1, h8, h10, h11, h57, hlt, hge, e2_F, hf10, hf11, neNil2, row2, hw, hne0]
      refine WC.mono (same_w 0 0 1 0 [7, a] (by simp) S') ?_
      rintro _ rfl
      simp only [thenW_normal, thenW_exit, thenW_ret, thenW_pan, W_skip, W_region, W_drawn, W_seq, W_cond, W_block, W_loop, W_exit, W_ret, seqQ_normal2, seqQ_exit2, seqQ_ret2, seqQ_pan2, blockW_normal2, blockW_ret2, blockW_pan2, blockW_exit2, WL_nil2, WL_cons, execL_no, execL_val2, execL_skip2, execL_enter2, execL_pan2, putL_none2, putL_some2, retL_ret2, retL_pan2, condW_t2, condW_f2, wantedA, exec1, evalO, initT, T.get_set, T.get_leaf, callA, mapO, ofOpt, ofOptS, ofConst, e2_P, e2_G, partsA, neNil3, finW_ret, finW_pan, giveW, resultsA, tupA, ground_not, notO_bool, fb_lss, fb_leq, fb_gtr, fb_geq, fb_add, fb_eqlI, fb_neqI, Nat.reduceLT, Nat.reduceAdd, Nat.reduceEqDiff, if_true, if_false, reduceIte, true_and, and_true, Option.getD_some, List.getElem?_toArray, List.getElem?_cons_succ, List.getElem?_cons_zero, Option.bind_some, List.nil_append, List.append_nil, beq_self_eq_true, Bool.false_eq_true, Bool.true_eq_false, decide_true, decide_false, Bool.not_true, Bool.not_false, Bool.false_beq, Bool.true_beq, Option.toList, List.head?_cons, List.head?_nil, WR_nil2, WR_op, WR_re2, execR_no, execR_val2, execR_skip2, execR_enter2, execR_pan2, putRW_none2, putRW_some2, retRW_ret2, retRW_pan2, fixQ_normal2, fixQ_pan2, rsOf, srBody, srRest, Tryz.f7, h0, h1, h8, h10, h11, h57, hlt, hge, e2_F, hf10, hf11, neNil2, row2, hw, hne0]
      refine WX.mono (sr_loop N obj ids na d a b Inv hdo m (i + 1) _ S' (by omega) hS' ?_ ?_ ?_ ?_ ?_ ?_) (fun r h => h)
      · simp only [T.get_set, Nat.reduceEqDiff, if_false, h0]
      · simp only [T.get_set, Nat.reduceEqDiff, if_false, h1]
      · simp only [T.get_set, Nat.reduceEqDiff, if_false, h8]
      · simp only [T.get_set, Nat.reduceEqDiff, if_false, h10]
      · simp only [T.get_set, Nat.reduceEqDiff, if_false, h11]
      · simp only [T.get_set, Nat.reduceEqDiff, if_true]
    · have hge : ((i : Int) ≥ (d : Int)) := by omega
      have hwant : wantD d i a b = IntKind.i64.wrap (a + b) := by unfold wantD; rw [if_neg hd]
      rw [hwant] at hr
      simp only [thenW_normal, thenW_exit, thenW_ret, thenW_pan, W_skip, W_region, W_drawn, W_seq, W_cond, W_block, W_loop, W_exit, W_ret, seqQ_normal2, seqQ_exit2, seqQ_ret2, seqQ_pan2, blockW_normal2, blockW_ret2, blockW_pan2, blockW_exit2, WL_nil2, WL_cons, execL_no, execL_val2, execL_skip2, execL_enter2, execL_pan2, putL_none2, putL_some2, retL_ret2, retL_pan2, condW_t2, condW_f2, wantedA, exec1, evalO, initT, T.get_set, T.get_leaf, callA, mapO, ofOpt, ofOptS, ofConst, e2_P, e2_G, partsA, neNil3, finW_ret, finW_pan, giveW, resultsA, tupA, ground_not, notO_bool, fb_lss, fb_leq, fb_gtr, fb_geq, fb_add, fb_eqlI, fb_neqI, Nat.reduceLT, Nat.reduceAdd, Nat.reduceEqDiff, if_true, if_false, reduceIte, true_and, and_true, Option.getD_some, List.getElem?_toArray, List.getElem?_cons_succ, List.getElem?_cons_zero, Option.bind_some, List.nil_append, List.append_nil, beq_self_eq_true, Bool.false_eq_true, Bool.true_eq_false, decide_true, decide_false, Bool.not_true, Bool.not_false, Bool.false_beq, Bool.true_beq, Option.toList, List.head?_cons, List.head?_nil, WR_nil2, WR_op, WR_re2, execR_no, execR_val2, execR_skip2, execR_enter2, execR_pan2, putRW_none2, putRW_some2, retRW_ret2, retRW_pan2, fixQ_normal2, fixQ_pan2, rsOf, srBody, srRest, Tryz.f7, h0, h1, h8, h10, h11, h57, hlt, hge, e2_F, hf10, hf11, neNil2, row2, hw, hne0]
      refine WC_known (e2_i11 ..) ?_
      rw [hr]
      simp only [thenW_normal, thenW_exit, thenW_ret, thenW_pan, W_skip, W_region, W_drawn, W_seq, W_cond, W_block, W_loop, W_exit, W_ret, seqQ_normal2, seqQ_exit2, seqQ_ret2, seqQ_pan2, blockW_normal2, blockW_ret2, blockW_pan2, blockW_exit2, WL_nil2, WL_cons, execL_no, execL_val2, execL_skip2, execL_enter2, execL_pan2, putL_none2, putL_some2, retL_ret2, retL_pan2, condW_t2, condW_f2, wantedA, exec1, evalO, initT, T.get_set, T.get_leaf, callA, mapO, ofOpt, ofOptS, ofConst, e2_P, e2_G, partsA, neNil3, finW_ret, finW_pan, giveW, resultsA, tupA, ground_not, notO_bool, fb_lss, fb_leq, fb_gtr, fb_geq, fb_add, fb_eqlI, fb_neqI, Nat.reduceLT, Nat.reduceAdd, Nat.reduceEqDiff, if_true, if_false, reduceIte, true_and, and_true, Option.getD_some, List.getElem?_toArray, List.getElem?_cons_succ, List.getElem?_cons_zero, Option.bind_some, List.nil_append, List.append_nil, beq_self_eq_true, Bool.false_eq_true, Bool.true_eq_false, decide_true, decide_false, Bool.not_true, Bool.not_false, Bool.false_beq, Bool.true_beq, Option.toList, List.head?_cons, List.head?_nil, WR_nil2, WR_op, WR_re2, execR_no, execR_val2, execR_skip2, execR_enter2, execR_pan2, putRW_none2, putRW_some2, retRW_ret2, retRW_pan2, fixQ_normal2, fixQ_pan2, rsOf, srBody, srRest, Tryz.f7, h0, h1, h8, h10, h11, h57, hlt, hge, e2_F, hf10, hf11, neNil2, row2, hw, hne0]
      refine WC.mono (same_w 0 0 1 0 [IntKind.i64.wrap (a + b), a] (by simp) S') ?_
      rintro _ rfl
      simp only [thenW_normal, thenW_exit, thenW_ret, thenW_pan, W_skip, W_region, W_drawn, W_seq, W_cond, W_block, W_loop, W_exit, W_ret, seqQ_normal2, seqQ_exit2, seqQ_ret2, seqQ_pan2, blockW_normal2, blockW_ret2, blockW_pan2, blockW_exit2, WL_nil2, WL_cons, execL_no, execL_val2, execL_skip2, execL_enter2, execL_pan2, putL_none2, putL_some2, retL_ret2, retL_pan2, condW_t2, condW_f2, wantedA, exec1, evalO, initT, T.get_set, T.get_leaf, callA, mapO, ofOpt, ofOptS, ofConst, e2_P, e2_G, partsA, neNil3, finW_ret, finW_pan, giveW, resultsA, tupA, ground_not, notO_bool, fb_lss, fb_leq, fb_gtr, fb_geq, fb_add, fb_eqlI, fb_neqI, Nat.reduceLT, Nat.reduceAdd, Nat.reduceEqDiff, if_true, if_false, reduceIte, true_and, and_true, Option.getD_some, List.getElem?_toArray, List.getElem?_cons_succ, List.getElem?_cons_zero, Option.bind_some, List.nil_append, List.append_nil, beq_self_eq_true, Bool.false_eq_true, Bool.true_eq_false, decide_true, decide_false, Bool.not_true, Bool.not_false, Bool.false_beq, Bool.true_beq, Option.toList, List.head?_cons, List.head?_nil, WR_nil2, WR_op, WR_re2, execR_no, execR_val2, execR_skip2, execR_enter2, execR_pan2, putRW_none2, putRW_some2, retRW_ret2, retRW_pan2, fixQ_normal2, fixQ_pan2, rsOf, srBody, srRest, Tryz.f7, h0, h1, h8, h10, h11, h57, hlt, hge, e2_F, hf10, hf11, neNil2, row2, hw, hne0]
      refine WX.mono (sr_loop N obj ids na d a b Inv hdo m (i + 1) _ S' (by omega) hS' ?_ ?_ ?_ ?_ ?_ ?_) (fun r h => h)
      · simp only [T.get_set, Nat.reduceEqDiff, if_false, h0]
      · simp only [T.get_set, Nat.reduceEqDiff, if_false, h1]
      · simp only [T.get_set, Nat.reduceEqDiff, if_false, h8]
      · simp only [T.get_set, Nat.reduceEqDiff, if_false, h10]
      · simp only [T.get_set, Nat.reduceEqDiff, if_false, h11]
      · simp only [T.get_set, Nat.reduceEqDiff, if_true]
def firstI (l : List Int) (i : Nat) : Int := l.getD i 0
theorem firstI_lt {l : List Int} {i : Nat} (h : i < l.length) : firstI l i = l[i] := by simp [firstI, h]
theorem firstI_ge {l : List Int} {i : Nat} (h : ¬ i < l.length) : firstI l i = 0 := by simp [firstI, h]
theorem sr_rest (N obj : Nat) (ids : List Nat) (na : AV) (l : List Int) (hna : isRowI na l) (d : Nat) (Inv : Nat → St → Prop) (hdo : Does N obj ids na d (firstI l 0) (firstI l 1) Inv) (f : T AV) (S : St) (h0 : f.get 0 = some na) (h1 : f.get 1 = some (.v (.int .i64 (d : Int)))) (h8 : f.get 8 = some (.ptr obj 0)) (h9 : f.get 9 = some (.v (.bool true))) (hS : Inv 0 S) :
    W (E2 N ids) 75 srRest ⟨f, []⟩ S (fun r => ∃ f' S', r = .out .ret ⟨f', []⟩ S' ∧ f'.get 4 = some (.v (.bool true))) := by
  have hlen := fun S => len22' S hna
  have fin : ∀ (t : T AV), t.get 0 = some na → t.get 1 = some (.v (.int .i64 (d : Int))) → t.get 8 = some (.ptr obj 0) → t.get 10 = some (.v (.int .i64 (firstI l 0))) → t.get 11 = some (.v (.int .i64 (firstI l 1))) → t.get 57 = some (.v (.int .i64 0)) → WX (E2 N ids) 75 (.loop srBody) ⟨t, []⟩ S (fun r => ∃ t' S', r = .out (.exit 2) ⟨t', []⟩ S') := fun t q0 q1 q8 q10 q11 q57 =>
    sr_loop N obj ids na d _ _ Inv hdo 12 0 t S (by omega) hS q0 q1 q8 q10 q11 q57
  by_cases k0 : 0 < l.length
  · have k0' : ((l.length : Nat) : Int) > 0 := by omega
    have hrow : na = rowI 0 0 l := by
      rcases hna with ⟨_, rfl⟩ | h
      · exact absurd k0 (Nat.lt_irrefl 0)
      · exact h
    have hx0 : oIndexAddr Tryz.prog 47 na (.v (.int .i64 0)) = some (.ep [i64A l[0]]) := by rw [hrow]; exact idx22 0 0 l 0 k0
    have e0 := firstI_lt k0
    by_cases k1 : 1 < l.length
    · have k1' : ((l.length : Nat) : Int) > 1 := by omega
      have hx1 : oIndexAddr Tryz.prog 47 na (.v (.int .i64 1)) = some (.ep [i64A l[1]]) := by rw [hrow]; exact idx22 0 0 l 1 k1
      have e1 := firstI_lt k1
      simp only [thenW_normal, thenW_exit, thenW_ret, thenW_pan, W_skip, W_region, W_drawn, W_seq, W_cond, W_block, W_loop, W_exit, W_ret, seqQ_normal2, seqQ_exit2, seqQ_ret2, seqQ_pan2, blockW_normal2, blockW_ret2, blockW_pan2, blockW_exit2, WL_nil2, WL_cons, execL_no, execL_val2, execL_skip2, execL_enter2, execL_pan2, putL_none2, putL_some2, retL_ret2, retL_pan2, condW_t2, condW_f2, wantedA, exec1, evalO, initT, T.get_set, T.get_leaf, callA, mapO, ofOpt, ofOptS, ofConst, e2_P, e2_G, partsA, neNil3, finW_ret, finW_pan, giveW, resultsA, tupA, ground_not, notO_bool, fb_lss, fb_leq, fb_gtr, fb_geq, fb_add, fb_eqlI, fb_neqI, Nat.reduceLT, Nat.reduceAdd, Nat.reduceEqDiff, if_true, if_false, reduceIte, true_and, and_true, Option.getD_some, List.getElem?_toArray, List.getElem?_cons_succ, List.getElem?_cons_zero, Option.bind_some, List.nil_append, List.append_nil, beq_self_eq_true, Bool.false_eq_true, Bool.true_eq_false, decide_true, decide_false, Bool.not_true, Bool.not_false, Bool.false_beq, Bool.true_beq, Option.toList, List.head?_cons, List.head?_nil, WR_nil2, WR_op, WR_re2, execR_no, execR_val2, execR_skip2, execR_enter2, execR_pan2, putRW_none2, putRW_some2, retRW_ret2, retRW_pan2, fixQ_normal2, fixQ_pan2, rsOf, srRest, Tryz.f7, hlen, h0, h9, k0', k1', ld2, neNil2, hx0, hx1]
      refine WX.mono (fin _ ?_ ?_ ?_ ?_ ?_ ?_) ?_
      · simp only [T.get_set, Nat.reduceEqDiff, if_false, h0]
      · simp only [T.get_set, Nat.reduceEqDiff, if_false, h1]
      · simp only [T.get_set, Nat.reduceEqDiff, if_false, h8]
      · simp only [T.get_set, Nat.reduceEqDiff, if_false, if_true, e0]
      · simp only [T.get_set, Nat.reduceEqDiff, if_false, if_true, e1]
      · simp only [T.get_set, Nat.reduceEqDiff, if_true]
      rintro _ ⟨t', S', rfl⟩
      simp only [thenW_normal, thenW_exit, thenW_ret, thenW_pan, W_skip, W_region, W_drawn, W_seq, W_cond, W_block, W_loop, W_exit, W_ret, seqQ_normal2, seqQ_exit2, seqQ_ret2, seqQ_pan2, blockW_normal2, blockW_ret2, blockW_pan2, blockW_exit2, WL_nil2, WL_cons, execL_no, execL_val2, execL_skip2, execL_enter2, execL_pan2, putL_none2, putL_some2, retL_ret2, retL_pan2, condW_t2, condW_f2, wantedA, exec1, evalO, initT, T.get_set, T.get_leaf, callA, mapO, ofOpt, ofOptS, ofConst, e2_P, e2_G, partsA, neNil3, finW_ret, finW_pan, giveW, resultsA, tupA, ground_not, notO_bool, fb_lss, fb_leq, fb_gtr, fb_geq, fb_add, fb_eqlI, fb_neqI, Nat.reduceLT, Nat.reduceAdd, Nat.reduceEqDiff, if_true, if_false, reduceIte, true_and, and_true, Option.getD_some, List.getElem?_toArray, List.getElem?_cons_succ, List.getElem?_cons_zero, Option.bind_some, List.nil_append, List.append_nil, beq_self_eq_true, Bool.false_eq_true, Bool.true_eq_false, decide_true, decide_false, Bool.not_true, Bool.not_false, Bool.false_beq, Bool.true_beq, Option.toList, List.head?_cons, List.head?_nil, WR_nil2, WR_op, WR_re2, execR_no, execR_val2, execR_skip2, execR_enter2, execR_pan2, putRW_none2, putRW_some2, retRW_ret2, retRW_pan2, fixQ_normal2, fixQ_pan2, rsOf, srRest, Tryz.f7]
      exact ⟨_, _, rfl, by simp only [T.get_set, Nat.reduceEqDiff, if_true]⟩
    · have k1' : ¬ (((l.length : Nat) : Int) > 1) := by omega
      have e1 := firstI_ge k1
      simp only [thenW_normal, thenW_exit, thenW_ret, thenW_pan, W_skip, W_region, W_drawn, W_seq, W_cond, W_block, W_loop, W_exit, W_ret, seqQ_normal2, seqQ_exit2, seqQ_ret2, seqQ_pan2, blockW_normal2, blockW_ret2, blockW_pan2, blockW_exit2, WL_nil2, WL_cons, execL_no, execL_val2, execL_skip2, execL_enter2, execL_pan2, putL_none2, putL_some2, retL_ret2, retL_pan2, condW_t2, condW_f2, wantedA, exec1, evalO, initT, T.get_set, T.get_leaf, callA, mapO, ofOpt, ofOptS, ofConst, e2_P, e2_G, partsA, neNil3, finW_ret, finW_pan, giveW, resultsA, tupA, ground_not, notO_bool, fb_lss, fb_leq, fb_gtr, fb_geq, fb_add, fb_eqlI, fb_neqI, Nat.reduceLT, Nat.reduceAdd, Nat.reduceEqDiff, if_true, if_false, reduceIte, true_and, and_true, Option.getD_some, List.getElem?_toArray, List.getElem?_cons_succ, List.getElem?_cons_zero, Option.bind_some, List.nil_append, List.append_nil, beq_self_eq_true, Bool.false_eq_true, Bool.true_eq_false, decide_true, decide_false, Bool.not_true, Bool.not_false, Bool.false_beq, Bool.true_beq, Option.toList, List.head?_cons, List.head?_nil, WR_nil2, WR_op, WR_re2, execR_no, execR_val2, execR_skip2, execR_enter2, execR_pan2, putRW_none2, putRW_some2, retRW_ret2, retRW_pan2, fixQ_normal2, fixQ_pan2, rsOf, srRest, Tryz.f7, hlen, h0, h9, k0', k1', ld2, neNil2, hx0]
      refine WX.mono (fin _ ?_ ?_ ?_ ?_ ?_ ?_) ?_
      · simp only [T.get_set, Nat.reduceEqDiff, if_false, h0]
      · simp only [T.get_set, Nat.reduceEqDiff, if_false, h1]
      · simp only [T.get_set, Nat.reduceEqDiff, if_false, h8]
      · simp only [T.get_set, Nat.reduceEqDiff, if_false, if_true, e0]
      · simp only [T.get_set, Nat.reduceEqDiff, if_false, if_true, e1]
      · simp only [T.get_set, Nat.reduceEqDiff, if_true]
      rintro _ ⟨t', S', rfl⟩
      simp only [thenW_normal, thenW_exit, thenW_ret, thenW_pan, W_skip, W_region, W_drawn, W_seq, W_cond, W_block, W_loop, W_exit, W_ret, seqQ_normal2, seqQ_exit2, seqQ_ret2, seqQ_pan2, blockW_normal2, blockW_ret2, blockW_pan2, blockW_exit2, WL_nil2, WL_cons, execL_no, execL_val2, execL_skip2, execL_enter2, execL_pan2, putL_none2, putL_some2, retL_ret2, retL_pan2, condW_t2, condW_f2, wantedA, exec1, evalO, initT, T.get_set, T.get_leaf, callA, mapO, ofOpt, ofOptS, ofConst, e2_P, e2_G, partsA, neNil3, finW_ret, finW_pan, giveW, resultsA, tupA, ground_not, notO_bool, fb_lss, fb_leq, fb_gtr, fb_geq, fb_add, fb_eqlI, fb_neqI, Nat.reduceLT, Nat.reduceAdd, Nat.reduceEqDiff, if_true, if_false, reduceIte, true_and, and_true, Option.getD_some, List.getElem?_toArray, List.getElem?_cons_succ, List.getElem?_cons_zero, Option.bind_some, List.nil_append, List.append_nil, beq_self_eq_true, Bool.false_eq_true, Bool.true_eq_false, decide_true, decide_false, Bool.not_true, Bool.not_false, Bool.false_beq, Bool.true_beq, Option.toList, List.head?_cons, List.head?_nil, WR_nil2, WR_op, WR_re2, execR_no, execR_val2, execR_skip2, execR_enter2, execR_pan2, putRW_none2, putRW_some2, retRW_ret2, retRW_pan2, fixQ_normal2, fixQ_pan2, rsOf, srRest, Tryz.f7]
      exact ⟨_, _, rfl, by simp only [T.get_set, Nat.reduceEqDiff, if_true]⟩
  · have k0' : ¬ (((l.length : Nat) : Int) > 0) := by omega
    have k1' : ¬ (((l.length : Nat) : Int) > 1) := by omega
    have e0 := firstI_ge k0
    have e1 := firstI_ge (l := l) (i := 1) (by omega)
    simp only [thenW_normal, thenW_exit, thenW_ret, thenW_pan, W_skip, W_region, W_drawn, W_seq, W_cond, W_block, W_loop, W_exit, W_ret, seqQ_normal2, seqQ_exit2, seqQ_ret2, seqQ_pan2, blockW_normal2, blockW_ret2, blockW_pan2, blockW_exit2, WL_nil2, WL_cons, execL_no, execL_val2, execL_skip2, execL_enter2, execL_pan2, putL_none2, putL_some2, retL_ret2, retL_pan2, condW_t2, condW_f2, wantedA, exec1, evalO, initT, T.get_set, T.get_leaf, callA, mapO, ofOpt, ofOptS, ofConst, e2_P, e2_G, partsA, neNil3, finW_ret, finW_pan, giveW, resultsA, tupA, ground_not, notO_bool, fb_lss, fb_leq, fb_gtr, fb_geq, fb_add, fb_eqlI, fb_neqI, Nat.reduceLT, Nat.reduceAdd, Nat.reduceEqDiff, if_true, if_false, reduceIte, true_and, and_true, Option.getD_some, List.getElem?_toArray, List.getElem?_cons_succ, List.getElem?_cons_zero, Option.bind_some, List.nil_append, List.append_nil, beq_self_eq_true, Bool.false_eq_true, Bool.true_eq_false, decide_true, decide_false, Bool.not_true, Bool.not_false, Bool.false_beq, Bool.true_beq, Option.toList, List.head?_cons, List.head?_nil, WR_nil2, WR_op, WR_re2, execR_no, execR_val2, execR_skip2, execR_enter2, execR_pan2, putRW_none2, putRW_some2, retRW_ret2, retRW_pan2, fixQ_normal2, fixQ_pan2, rsOf, srRest, Tryz.f7, hlen, h0, h9, k0', k1', ld2, neNil2]
    refine WX.mono (fin _ ?_ ?_ ?_ ?_ ?_ ?_) ?_
    · simp only [T.get_set, Nat.reduceEqDiff, if_false, h0]
    · simp only [T.get_set, Nat.reduceEqDiff, if_false, h1]
    · simp only [T.get_set, Nat.reduceEqDiff, if_false, h8]
    · simp only [T.get_set, Nat.reduceEqDiff, if_false, if_true, e0]
    · simp only [T.get_set, Nat.reduceEqDiff, if_false, if_true, e1]
    · simp only [T.get_set, Nat.reduceEqDiff, if_true]
    rintro _ ⟨t', S', rfl⟩
    simp only [thenW_normal, thenW_exit, thenW_ret, thenW_pan, W_skip, W_region, W_drawn, W_seq, W_cond, W_block, W_loop, W_exit, W_ret, seqQ_normal2, seqQ_exit2, seqQ_ret2, seqQ_pan2, blockW_normal2, blockW_ret2, blockW_pan2, blockW_exit2, WL_nil2, WL_cons, execL_no, execL_val2, execL_skip2, execL_enter2, execL_pan2, putL_none2, putL_some2, retL_ret2, retL_pan2, condW_t2, condW_f2, wantedA, exec1, evalO, initT, T.get_set, T.get_leaf, callA, mapO, ofOpt, ofOptS, ofConst, e2_P, e2_G, partsA, neNil3, finW_ret, finW_pan, giveW, resultsA, tupA, ground_not, notO_bool, fb_lss, fb_leq, fb_gtr, fb_geq, fb_add, fb_eqlI, fb_neqI, Nat.reduceLT, Nat.reduceAdd, Nat.reduceEqDiff, if_true, if_false, reduceIte, true_and, and_true, Option.getD_some, List.getElem?_toArray, List.getElem?_cons_succ, List.getElem?_cons_zero, Option.bind_some, List.nil_append, List.append_nil, beq_self_eq_true, Bool.false_eq_true, Bool.true_eq_false, decide_true, decide_false, Bool.not_true, Bool.not_false, Bool.false_beq, Bool.true_beq, Option.toList, List.head?_cons, List.head?_nil, WR_nil2, WR_op, WR_re2, execR_no, execR_val2, execR_skip2, execR_enter2, execR_pan2, putRW_none2, putRW_some2, retRW_ret2, retRW_pan2, fixQ_normal2, fixQ_pan2, rsOf, srRest, Tryz.f7]
    exact ⟨_, _, rfl, by simp only [T.get_set, Nat.reduceEqDiff, if_true]⟩
end Go.Ax
noncomputable section
namespace Go.Ax
open Go.RowKit Go.Proofs
set_option linter.unusedVariables false
set_option linter.unusedSimpArgs false
set_option maxRecDepth 100000
def srC1 : Code := match Tryz.f7.body with
  | some (.seq _ (.seq _ (.seq _ (.seq _ (.seq a _))))) => a
  | _ => .skip
def srC2 : Code := match Tryz.f7.body with
  | some (.seq _ (.seq _ (.seq _ (.seq _ (.seq _ (.seq a _)))))) => a
  | _ => .skip
def srC3 : Code := match Tryz.f7.body with
  | some (.seq _ (.seq _ (.seq _ (.seq _ (.seq _ (.seq _ (.seq a _))))))) => a
  | _ => .skip
def srC4 : Code := match Tryz.f7.body with
  | some (.seq _ (.seq _ (.seq _ (.seq _ (.seq _ (.seq _ (.seq _ (.seq a _)))))))) => a
  | _ => .skip
def srO1 (na : AV) (d : Nat) : O := (comp E1 75 srC1 none).c (callX E1 2000) (frL [(0, na), (1, .v (.int .i64 (d : Int)))]) [] St0
def srO2 (na : AV) (d : Nat) : O := (comp E1 75 srC2 none).c (callX E1 2000) (outF (srO1 na d)) [] (outS (srO1 na d))
def srO3 (na : AV) (d : Nat) : O := (comp E1 75 srC3 none).c (callX E1 2000) (outF (srO2 na d)) [] (outS (srO2 na d))
def srO4 (na : AV) (d : Nat) : O := (comp E1 75 srC4 none).c (callX E1 2000) (outF (srO3 na d)) [] (outS (srO3 na d))
theorem sum_eq (a b : Int) : wrap64R (addI a b) = IntKind.i64.wrap (a + b) := by rw [wrap64R_eq, addI_eq]
/-- What stands so many places ahead of the end. -/
def qv (s : Int) (d i k : Nat) : Int := if d < i + k then s else 7
theorem qv_succ (s : Int) (d i k : Nat) : qv s d (i + 1) k = qv s d i (k + 1) := by
  unfold qv
  have : d < i + 1 + k ↔ d < i + (k + 1) := by omega
  simp only [this]
theorem qv_last' (s : Int) (d i k : Nat) (h : d < k) : qv s d i k = s := by unfold qv; rw [if_pos (by omega)]
theorem qv_want (d i : Nat) (a b : Int) : qv (IntKind.i64.wrap (a + b)) d i 1 = wantD d i a b := by
  unfold qv wantD
  by_cases h : i < d
  · rw [if_neg (by omega), if_pos h]
  · rw [if_pos (by omega), if_neg h]
theorem qv_last0 (s : Int) (i : Nat) : qv s 0 i 1 = s := qv_last' s 0 i 1 (by omega)
theorem qv_last1 (s : Int) (i : Nat) : qv s 1 i 2 = s := qv_last' s 1 i 2 (by omega)
theorem qv_last2 (s : Int) (i : Nat) : qv s 2 i 3 = s := qv_last' s 2 i 3 (by omega)
theorem qv_last3 (s : Int) (i : Nat) : qv s 3 i 4 = s := qv_last' s 3 i 4 (by omega)
theorem qv_last4 (s : Int) (i : Nat) : qv s 4 i 5 = s := qv_last' s 4 i 5 (by omega)
theorem qv_last5 (s : Int) (i : Nat) : qv s 5 i 6 = s := qv_last' s 5 i 6 (by omega)
theorem qv_last6 (s : Int) (i : Nat) : qv s 6 i 7 = s := qv_last' s 6 i 7 (by omega)
theorem qv_last7 (s : Int) (i : Nat) : qv s 7 i 8 = s := qv_last' s 7 i 8 (by omega)
theorem qv_last8 (s : Int) (i : Nat) : qv s 8 i 9 = s := qv_last' s 8 i 9 (by omega)
theorem qv_last9 (s : Int) (i : Nat) : qv s 9 i 10 = s := qv_last' s 9 i 10 (by omega)
end Go.Ax
