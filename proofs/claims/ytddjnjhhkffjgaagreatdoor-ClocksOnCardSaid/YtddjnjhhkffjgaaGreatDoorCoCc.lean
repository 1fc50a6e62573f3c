/-
  ClocksOn, reasoned over: its loop, its end.
-/
import Derived.Test.YtddjnjhhkffjgaaGreatDoorCoCb
noncomputable section
namespace Go.Ax
open Go.RowKit Go.Proofs
set_option linter.unusedVariables false
set_option linter.unusedSimpArgs false
set_option maxRecDepth 100000
def strB (s : ByteArray) : AV := .v (.string s)
def boolB (b : Bool) : AV := .v (.bool b)
def isRow1 (a : AV) (es : List AV) : Prop := a = .nils ∧ es = [] ∨ ∃ tok off, a = .sl tok off 1 es
theorem e34 : elemT Tryz.prog 34 = some (none, 9) := by kernel_rfl
theorem u34 : Tryz.prog.underlying 34 = some (.slice 9) := by kernel_rfl
theorem e44 : elemT Tryz.prog 44 = some (none, 4) := by kernel_rfl
theorem u44 : Tryz.prog.underlying 44 = some (.slice 4) := by kernel_rfl
theorem s9 : sizeT Tryz.prog 9 = some 1 := by kernel_rfl
theorem s4 : sizeT Tryz.prog 4 = some 1 := by kernel_rfl
theorem len34 (S : St) {a : AV} {es : List AV} (h : isRow1 a es) : oLen Tryz.prog S 34 a = some es.length := by
  rcases h with ⟨rfl, rfl⟩ | ⟨tok, off, rfl⟩ <;> simp [oLen, u34]
theorem len44 (S : St) {a : AV} {es : List AV} (h : isRow1 a es) : oLen Tryz.prog S 44 a = some es.length := by
  rcases h with ⟨rfl, rfl⟩ | ⟨tok, off, rfl⟩ <;> simp [oLen, u44]
theorem idx34 {a : AV} {l : List ByteArray} {i : Nat} (h : isRow1 a (l.map strB)) (hi : i < l.length) : oIndexAddr Tryz.prog 34 a (.v (.int .i64 (i : Int))) = some (.ep [strB l[i]]) := by
  rcases h with ⟨rfl, h⟩ | ⟨tok, off, rfl⟩
  · have : l = [] := by simpa using h
    subst this; simp at hi
  · have h0 : (0 : Int) ≤ (i : Int) := by omega
    simp [oIndexAddr, h0, e34, s9, hi, strB, AV.cells]
theorem idx44 {a : AV} {l : List Bool} {i : Nat} (h : isRow1 a (l.map boolB)) (hi : i < l.length) : oIndexAddr Tryz.prog 44 a (.v (.int .i64 (i : Int))) = some (.ep [boolB l[i]]) := by
  rcases h with ⟨rfl, h⟩ | ⟨tok, off, rfl⟩
  · have : l = [] := by simpa using h
    subst this; simp at hi
  · have h0 : (0 : Int) ≤ (i : Int) := by omega
    simp [oIndexAddr, h0, e44, s4, hi, boolB, AV.cells]
theorem load9 (S : St) (x : AV) : oLoad Tryz.prog S 9 (.ep [x]) = some x := by simp [oLoad, behind, a9]
theorem load4 (S : St) (x : AV) : oLoad Tryz.prog S 4 (.ep [x]) = some x := by simp [oLoad, behind, a4]
noncomputable def clkBody : Code := match Tryz.f5.body with
  | some (.seq _ (.seq _ (.seq _ (.seq (.seq _ (.block _ (.loop c))) _)))) => c
  | _ => .skip
noncomputable def clkOps : Array Oper := match clkBody with
  | .seq _ (.seq (.block _ (.region _ ops _)) _) => ops
  | _ => #[]
def isNormal (r : O) : Bool := match r with
  | .out .normal _ _ => true
  | _ => false
theorem clkOps_draw (ck : CallK) (f : Fr) (S : St) (hx : isNormal (runRS E1 ck 102 clkOps (clkOps.toList.map RS.op) f S) = true) : drawnNew E1 ck 102 clkOps f S = runRS E1 ck 102 clkOps (clkOps.toList.map RS.op) f S := by
  cases hr : runRS E1 ck 102 clkOps (clkOps.toList.map RS.op) f S with
  | fail => rw [hr] at hx; cases hx
  | out e f' S' =>
    cases e with
    | normal => exact drawn_steps (by kernel_rfl) (by kernel_rfl) (rs := clkOps.toList.map RS.op) (by kernel_rfl) hr
    | _ => rw [hr] at hx; cases hx
set_option maxHeartbeats 4000000 in
theorem clk_round (m j : Nat) (na oa : AV) (ss : List ByteArray) (bs : List Bool) (c : AV) (gs : List Gd) (i : Nat) (t : T AV) (S : St) (hn : isRow1 na (ss.map strB)) (ho : isRow1 oa (bs.map boolB)) (hc : isRow c (gA gs)) (hg : gs.length ≤ 5)
    (h1 : i < ss.length) (h2 : i < bs.length) (h3 : i < 5) (f0 : t.get 0 = some na) (f1 : t.get 1 = some oa) (f9 : t.get 9 = some c) (f10 : t.get 10 = some (.v (.int .i64 (i : Int)))) :
    ∃ t' S', runC E1 (drawnNew E1) (callC E1 (m + 2)) (j + 20) 102 clkBody ⟨t, []⟩ S = .out .normal ⟨t', []⟩ S' ∧ t'.get 0 = some na ∧ t'.get 1 = some oa ∧ t'.get 2 = t.get 2 ∧ t'.get 3 = t.get 3 ∧ t'.get 9 = some (.sl S.next 0 2 (gA gs ++ [G ss[i] bs[i]])) ∧ t'.get 10 = some (.v (.int .i64 ((i + 1 : Nat) : Int))) := by
  have L1 := fun S => len34 S hn
  have L2 := fun S => len44 S ho
  simp only [List.length_map] at L1 L2
  have b1 : ((i : Int) < (ss.length : Int)) := by omega
  have b2 : ((i : Int) < (bs.length : Int)) := by omega
  have b3 : ((i : Int) < 5) := by omega
  have x1 := idx34 hn h1
  have x2 := idx44 ho h2
  have y1 := fun S x => load9 S x
  have y2 := fun S x => load4 S x
  have hw := wrap_small (i := i) (by omega)
  have hcall := fun S => on_call (m + 1) c (gA gs) ss[i] bs[i] S hc (by simp [gA]; omega)
  obtain ⟨fn, hfn⟩ := Option.isSome_iff_exists.1 fn18
  have hd := @clkOps_draw (callC E1 (m + 2))
  unfold clkOps at hd
  simp only [clkBody, Tryz.f5] at hd
  simp only [clkBody, Tryz.f5]
  simp only [seq_run, region_run, ret_run, block_run, cond_run, skip_run, exit_run, drawn_run, runL_cons, runL_nil, stepO, wantedA, List.getElem?_toArray, List.getElem?_cons_succ, List.getElem?_cons_zero, Option.bind_some, exec1, evalO, T.get_set, T.get_leaf, putA, callA, mapO, ofOpt, ofConst, e1_P, e1_G, Nat.reduceLT, Nat.reduceAdd, Nat.reduceEqDiff, if_true, if_false, reduceIte, f0, f1, f9, f10, L1, L2, neNil3, fb_lss, b1, b2, b3, decide_true, beq_self_eq_true, Bool.false_eq_true]
  rw [hd]
  · simp only [List.map_cons, List.map_nil, runRS_op, runRS_nil, seq_run, region_run, ret_run, block_run, cond_run, skip_run, exit_run, runL_cons, runL_nil, stepO, wantedA, exec1, evalO, T.get_set, T.get_leaf, putA, callA, mapO, List.nil_append, List.append_nil, hfn, ofOpt, ofConst, e1_P, e1_G, Nat.reduceLT, Nat.reduceEqDiff, if_true, if_false, reduceIte, f0, f1, f9, f10, x1, x2, y1, y2, strB, boolB, hcall, neNil3, fb_add, hw]
    refine ⟨_, _, rfl, ?_, ?_, ?_, ?_, ?_, ?_⟩
    all_goals simp only [T.get_set, Nat.reduceEqDiff, if_true, if_false, f0, f1]
  · simp only [List.map_cons, List.map_nil, runRS_op, runRS_nil, seq_run, region_run, ret_run, block_run, cond_run, skip_run, exit_run, runL_cons, runL_nil, stepO, wantedA, exec1, evalO, T.get_set, T.get_leaf, putA, callA, mapO, List.nil_append, List.append_nil, hfn, ofOpt, ofConst, e1_P, e1_G, Nat.reduceLT, Nat.reduceEqDiff, if_true, if_false, reduceIte, f0, f1, f9, f10, x1, x2, y1, y2, strB, boolB, hcall, neNil3, fb_add, hw]
    rfl
end Go.Ax
