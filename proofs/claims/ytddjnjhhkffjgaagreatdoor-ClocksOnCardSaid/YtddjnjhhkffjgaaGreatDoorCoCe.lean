/-
  ClocksOn, reasoned over: what it says behind its loop.
-/
import Derived.Test.YtddjnjhhkffjgaaGreatDoorCoCd
noncomputable section
namespace Go.Ax
open Go.RowKit Go.Proofs
set_option linter.unusedVariables false
set_option linter.unusedSimpArgs false
set_option maxRecDepth 100000
theorem not_ground (f : T AV) (S : St) (dst : Option Tmp) (k : Tmp) (ty : TypeId) (pos : String) (af : Array Edge) (gd : Option (Nat × Bool)) (b : Bool) (h : f.get k = some (.v (.bool b))) :
    ground Tryz.prog (fun _ => none) f S { dst := dst, op := .unOp .not 4 (.tmp k), type := ty, pos := pos, after := af, guard := gd } = .val (.v (.bool (!b))) S := by
  have hg : groundO (fun _ => none) f (.tmp k) = some (.bool b) := by unfold groundO; simp only [evalO, h]; rfl
  unfold ground
  simp only [Op.operands, List.all_cons, List.all_nil, hg, Option.isSome_some, Bool.and_self, if_true]
  have e : execOp (fun x => (groundO (fun _ => none) f x).getD undef) { dst := dst, op := .unOp .not 4 (.tmp k), type := ty, pos := pos, after := af, guard := gd } = execOp (fun _ => .bool b) { dst := dst, op := .unOp .not 4 (.tmp k), type := ty, pos := pos, after := af, guard := gd } := by
    simp only [execOp, hg, Option.getD_some]
  rw [e]
  cases b <;> rfl
theorem slice_pre {a : AV} {gs : List Gd} {g : Gd} (h : isRow a (gA (gs ++ [g]))) : ∃ r, oSlice Tryz.prog 46 a none (some (.v (.int .i64 (gs.length : Int)))) = some r ∧ isRow r (gA gs) := by
  rcases h with ⟨rfl, h⟩ | ⟨tok, off, rfl⟩
  · have := congrArg List.length h; simp [gA] at this
  · have h0 : (0 : Int) ≤ (gs.length : Int) := by omega
    by_cases hz : gs.length = 0
    · have : gs = [] := List.eq_nil_of_length_eq_zero hz
      subst this
      exact ⟨.sl 0 0 2 [], by simp [oSlice, e46, s49, boundA, gA], .inr ⟨0, 0, rfl⟩⟩
    · refine ⟨.sl 0 0 2 (gA gs), ?_, .inr ⟨0, 0, rfl⟩⟩
      have hz2 : ¬ 0 = gs.length := fun e => hz e.symm
      simp [oSlice, e46, s49, boundA, gA, h0, hz2]
theorem append_empty {c : AV} {gs : List Gd} (S : St) (h : isRow c (gA gs)) (hl : gs.length ≤ 1000) : ∃ r S', oAppend Tryz.prog S 46 46 (.sl 1 0 2 []) c = some (r, S') ∧ isRow r (gA gs) := by
  obtain ⟨i, hi, hz0, hz1, hz2⟩ := infoG_parts i49
  rcases h with ⟨rfl, h⟩ | ⟨tok, off, rfl⟩
  · refine ⟨.sl 1 0 2 [], S, ?_, .inr ⟨1, 0, by rw [h]⟩⟩
    simp [oAppend, e46, hi, hz0, hz1, hz2, srcA, u46, Value.cells]
  · cases gs with
    | nil => exact ⟨.sl 1 0 2 [], S, by simp [oAppend, e46, hi, hz0, hz1, hz2, srcA, u46, Value.cells, gA], .inr ⟨1, 0, rfl⟩⟩
    | cons g r =>
      have h1 : (r.length + 1) * 24 ≤ 140737488355328 := by simp at hl; omega
      have h2 : r.length + 1 ≤ 9223372036854775807 := by simp at hl; omega
      refine ⟨.sl S.next 0 2 (gA (g :: r)), S.grown 1 ((gA (g :: r)).length * 2), ?_, .inr ⟨_, _, rfl⟩⟩
      simp [oAppend, e46, hi, hz0, hz1, hz2, srcA, u46, Value.cells, tipOk, gA, h1, h2]
theorem row0 : oBuildSlice Tryz.prog 46 0 [] = some (.sl 1 0 2 []) := by simp [oBuildSlice, e46, s49, z49]
noncomputable def clkTail : Code := match Tryz.f5.body with
  | some (.seq _ (.seq _ (.seq _ (.seq _ r)))) => r
  | _ => .skip
set_option maxHeartbeats 8000000 in
theorem clk_tail (m j : Nat) (c : AV) (gs : List Gd) (more : ByteArray) (off : Bool) (t : T AV) (S : St) (hc : isRow c (gA gs)) (hl : gs.length ≤ 5) (f9 : t.get 9 = some c) (f2 : t.get 2 = some (.v (.string more))) (f3 : t.get 3 = some (.v (.bool off))) :
    ∃ t' S', runC E1 (drawnNew E1) (callC E1 (m + 2)) (j + 20) 102 clkTail ⟨t, []⟩ S = .out .ret ⟨t', []⟩ S' ∧ t'.get 8 = some (.v (.bool true)) := by
  have hgl : (gA gs).length = gs.length := by simp [gA]
  have hcall := fun S b => on_call (m + 1) c (gA gs) more b S hc (by omega)
  simp only [gA_snoc] at hcall
  obtain ⟨fn, hfn⟩ := Option.isSome_iff_exists.1 fn18
  obtain ⟨fn2, hfn2⟩ := Option.isSome_iff_exists.1 fn19
  have L9 := fun S => oLen_row S c (gA gs) hc
  rw [hgl] at L9
  have hrow : ∀ (id : Nat) (o : Bool), isRow (.sl id 0 2 (gA (gs ++ [(more, o)]))) (gA (gs ++ [(more, o)])) := fun id o => .inr ⟨_, _, rfl⟩
  have LD := fun S id o => oLen_row S _ _ (hrow id o)
  have hdl : ∀ o, (gA (gs ++ [(more, o)])).length = gs.length + 1 := fun o => by simp [gA]
  simp only [hdl] at LD
  have hw := wrap_small (i := gs.length) (by omega)
  have ix := fun id => idx_row (i := gs.length) (hrow id off) (by simp)
  simp only [List.getElem_concat_length] at ix
  have ld := fun S => load49 S more off
  have hq := eql49 more more off off
  have e1 := fun S id id' => same_call m _ _ _ _ S (hrow id off) (hrow id' (!off)) (by simp; omega)
  have n1 : (decide ((gs ++ [(more, off)] : List Gd) = gs ++ [(more, !off)])) = false := by
    rw [decide_eq_false_iff_not]; intro e
    have := List.append_cancel_left e
    cases off <;> simp at this
  have e2 := fun S id => same_call m _ _ _ _ S (hrow id off) hc (by simp; omega)
  have n2 : (decide ((gs ++ [(more, off)] : List Gd) = gs)) = false := by
    rw [decide_eq_false_iff_not]; intro e
    have := congrArg List.length e; simp at this
  simp only [n1] at e1
  simp only [n2] at e2
  generalize hS1 : S.grown 1 ((gA (gs ++ [(more, off)])).length * 2) = S1
  have hcall1 : callC E1 (m + 1 + 1) 18 [c, .v (.string more), .v (.bool off)] S = .ret (.sl S.next 0 2 (gA (gs ++ [(more, off)]))) S1 := by rw [hcall, hS1]
  generalize hS2 : S1.grown 1 ((gA (gs ++ [(more, !off)])).length * 2) = S2
  have hcall2 : callC E1 (m + 1 + 1) 18 [c, .v (.string more), .v (.bool (!off))] S1 = .ret (.sl S1.next 0 2 (gA (gs ++ [(more, !off)]))) S2 := by rw [hcall, hS2]
  obtain ⟨rd, sd, hrd⟩ := slice_pre (hrow S.next off)
  obtain ⟨re, se, hre⟩ := slice_pre (hrow S1.next (!off))
  obtain ⟨ra, Sa, ea, hra⟩ := append_empty S2 hc (by omega)
  have e3 := fun S => same_call m rd c gs gs S hrd hc (by omega)
  have e4 := fun S => same_call m re c gs gs S hre hc (by omega)
  have e5 := fun S => same_call m c ra gs gs S hc hra (by omega)
  simp only [decide_true] at e3 e4 e5
  have g47 := fun f S dst ty pos af gd => not_ground f S dst 47 ty pos af gd off
  have g70 := fun f S dst ty pos af gd => not_ground f S dst 70 ty pos af gd false
  have g76 := fun f S dst ty pos af gd => not_ground f S dst 76 ty pos af gd false
  have ix0 := ix S.next
  have hqq : (decide (more = more) && decide (off = off)) = true := by simp
  rw [hqq] at hq
  have LDd := fun S' => LD S' S.next off
  have hbb := b49 more off
  clear hcall LD ix hrow
  simp only [clkTail, Tryz.f5]
  simp only [seq_run, region_run, ret_run, runL_cons, runL_nil, stepO, wantedA, List.getElem?_toArray, List.getElem?_cons_succ, List.getElem?_cons_zero, Option.bind_some, exec1, evalO, T.get_set, putA, callA, mapO, List.nil_append, List.append_nil, ofOpt, ofOptS, ofConst, e1_P, e1_G, Nat.reduceLT, Nat.reduceEqDiff, if_true, if_false, reduceIte, f9, f2, f3, hfn, hfn2, hcall1, hcall2, g47, g70, g76, L9, LDd, neNil3, neNil49, fb_add, fb_eqlI, hw, beq_self_eq_true, Option.toList, List.head?_cons, List.head?_nil, ix0, ld, partsA, hbb, fb_G, eqOr, hq, e1, e2, e3, e4, e5, sd, se, ea, row0, Bool.not_false, Bool.false_eq_true]
  exact ⟨_, _, rfl, by simp only [T.get_set, if_true]⟩
/-- All behind the awake. -/
noncomputable def clkRest : Code := match Tryz.f5.body with
  | some (.seq _ (.seq _ (.seq _ r))) => r
  | _ => .skip
theorem clkRest_eq : ∃ id p ty af, clkRest = .seq (.seq (.region id #[{ dst := some 10, op := .assign (.const (.int .i64 0)), type := ty, pos := p, after := af, guard := none }] false) (.block 0 (.loop clkBody))) clkTail := by
  exact ⟨_, _, _, _, rfl⟩
theorem clk_rest (m : Nat) (na oa : AV) (ss : List ByteArray) (bs : List Bool) (more : ByteArray) (off : Bool) (t : T AV) (S : St) (hn : isRow1 na (ss.map strB)) (ho : isRow1 oa (bs.map boolB))
    (f0 : t.get 0 = some na) (f1 : t.get 1 = some oa) (f2 : t.get 2 = some (.v (.string more))) (f3 : t.get 3 = some (.v (.bool off))) (f9 : t.get 9 = some .nils) :
    ∃ t' S', runC E1 (drawnNew E1) (callC E1 (m + 2)) 100 102 clkRest ⟨t, []⟩ S = .out .ret ⟨t', []⟩ S' ∧ t'.get 8 = some (.v (.bool true)) := by
  obtain ⟨id, p, ty, af, he⟩ := clkRest_eq
  obtain ⟨t1, S1, c, gs, k1, k2, k3, k4, k5, k6⟩ := clk_loop m 71 na oa ss bs hn ho 5 0 .nils [] (t.set 10 (some (.v (.int .i64 0)))) S rfl (Nat.le_refl _) (.inl ⟨rfl, rfl⟩) (by rw [T.get_set, if_neg (by decide)]; exact f0) (by rw [T.get_set, if_neg (by decide)]; exact f1) (by rw [T.get_set, if_neg (by decide)]; exact f9) (by rw [T.get_set, if_pos rfl]; rfl)
  rw [T.get_set, if_neg (by decide), f2] at k2
  rw [T.get_set, if_neg (by decide), f3] at k3
  obtain ⟨t2, S2, q1, q2⟩ := clk_tail m 79 c gs more off t1 S1 k5 k6 k4 k2 k3
  refine ⟨t2, S2, ?_, q2⟩
  have k1' : runC E1 (drawnNew E1) (callC E1 (m + 2)) 97 102 (.loop clkBody) ⟨t.set 10 (some (.v (.int .i64 0))), []⟩ S = .out (.exit 0) ⟨t1, []⟩ S1 := k1
  have q1' : runC E1 (drawnNew E1) (callC E1 (m + 2)) 99 102 clkTail ⟨t1, []⟩ S1 = .out .ret ⟨t2, []⟩ S2 := q1
  rw [he]
  simp only [show (100 : Nat) = 99 + 1 from rfl, seq_run]
  simp only [show (99 : Nat) = 98 + 1 from rfl, seq_run, show (98 : Nat) = 97 + 1 from rfl, region_run, block_run, runL_cons, runL_nil, stepO, wantedA, exec1, evalO, ofOpt, ofConst, putA, Nat.reduceLT, if_true, k1']
  exact q1'
end Go.Ax
