/-
  Tokens, one by one: reasoned over.
-/
import Derived.Test.YtjgknelmjdallaaGreatDoorFcLa2
noncomputable section
namespace Go.Ax
open Go.RowKit Go.Proofs
set_option linter.unusedVariables false
set_option linter.unusedSimpArgs false
set_option maxRecDepth 100000

def wordsL : List (List UInt8) := [[110, 111, 100, 101], [114, 101, 116, 117, 114, 110, 115], [118, 97, 114], [108, 101, 116], [116, 101, 108], [105, 110, 116], [98, 111, 111, 108], [102, 117, 116, 117, 114, 101], [119, 104, 101, 110], [110, 111, 116], [97, 110, 100], [111, 114], [120, 111, 114], [105, 102], [116, 104, 101, 110], [101, 108, 115, 101], [112, 114, 101], [102, 98, 121], [109, 101, 114, 103, 101], [97, 115, 121, 110, 99], [97, 119, 97, 105, 116], [97, 102, 116, 101, 114], [116, 114, 117, 101], [102, 97, 108, 115, 101], [109, 111, 100]]
def signsL : List (List UInt8) := [[60, 62], [60, 61], [62, 61], [45, 62], [40], [41], [44], [59], [58], [61], [60], [62], [43], [45], [42], [47]]
structure Tk where
  kind : Nat
  pos : Nat
  text : List UInt8
  num : Nat
def u64A (n : Nat) : AV := .v (.int .u64 (n : Int))
def tokC (t : Tk) : List AV := [intA t.kind, intA t.pos, strS t.text, u64A t.num]
def tokA (t : Tk) : AV := .agg (tokC t)
def zeroT : Tk := ⟨0, 0, [], 0⟩
def wordT (l : List UInt8) (i : Nat) : Tk × Nat :=
  if l.take (cnt isWordB l) ∈ wordsL then (⟨3, i, l.take (cnt isWordB l), 0⟩, 0) else if 30 < cnt isWordB l then (zeroT, 3) else (⟨1, i, l.take (cnt isWordB l), 0⟩, 0)
def numT (l : List UInt8) (i : Nat) : Option (Tk × Nat) :=
  if 1 < cnt isDigit l ∧ l.head? = some 48 then some (zeroT, 1) else if numV 0 (l.take (cnt isDigit l)) < 18446744073709551616 then (if 9223372036854775808 < numV 0 (l.take (cnt isDigit l)) then some (zeroT, 3) else some (⟨2, i, l.take (cnt isDigit l), numV 0 (l.take (cnt isDigit l))⟩, 0)) else none
def signT (l : List UInt8) (i : Nat) : Tk × Nat := match signsL.find? (fun s => startsW s l) with
  | some s => (⟨4, i, s, 0⟩, 0)
  | none => (zeroT, 1)
def nextT (l : List UInt8) (i : Nat) : Option (Tk × Nat) := match l with
  | [] => none
  | b :: _ => if isLetter b then some (wordT l i) else if isDigit b then numT l i else some (signT l i)
/-- All that was there is as it was. -/
def Keep (S S' : St) : Prop := S.next ≤ S'.next ∧ ∀ id, id < S.next → S'.mem.get id = S.mem.get id
theorem Keep.refl (S : St) : Keep S S := ⟨Nat.le_refl _, fun _ _ => rfl⟩
theorem Keep.trans {S S1 S2 : St} (h : Keep S S1) (k : Keep S1 S2) : Keep S S2 := ⟨Nat.le_trans h.1 k.1, fun id hid => (k.2 id (Nat.lt_of_lt_of_le hid h.1)).trans (h.2 id hid)⟩
def St.put (S : St) (id : Nat) (cs : List AV) : St := { S with mem := S.mem.set id (some (.box cs)) }
theorem keep_new (S : St) (cs : List AV) : Keep S (S.newBox cs) := ⟨Nat.le_succ _, fun id hid => by
  show (S.mem.set S.next _).get id = _
  rw [T.get_set, if_neg (by omega)]⟩
theorem keep_put {S S' : St} (h : Keep S S') {id : Nat} (hid : S.next ≤ id) (cs : List AV) : Keep S (S'.put id cs) := ⟨h.1, fun k hk => by
  show (S'.mem.set id _).get k = _
  rw [T.get_set, if_neg (by omega)]; exact h.2 k hk⟩
theorem new_get (S : St) (cs : List AV) : (S.newBox cs).mem.get S.next = some (.box cs) := by
  show (S.mem.set S.next _).get S.next = _
  rw [T.get_set, if_pos rfl]
theorem put_get (S : St) (id : Nat) (cs : List AV) : (S.put id cs).mem.get id = some (.box cs) := by
  show (S.mem.set id _).get id = _
  rw [T.get_set, if_pos rfl]
theorem a68 : isAggT Tryz.prog 68 = some true := by kernel_rfl
theorem s68 : sizeT Tryz.prog 68 = some 4 := by kernel_rfl
theorem st68 {S : St} {id : Nat} {cs ys : List AV} (h : S.mem.get id = some (.box cs)) (hl : cs.length = 4) (hy : ys.length = 4) : oStore Tryz.prog S 68 (.ptr id 0) (.agg ys) = some (S.put id ys) := by
  have h2 : (AV.agg ys).noTup = true := rfl
  simp [oStore, h, s68, h2, AV.cells, hl, hy, St.put, List.drop_eq_nil_of_le]
theorem st68_new (S : St) (cs ys : List AV) (hl : cs.length = 4) (hy : ys.length = 4) : oStore Tryz.prog (S.newBox cs) 68 (.ptr S.next 0) (.agg ys) = some ((S.newBox cs).put S.next ys) := st68 (new_get S cs) hl hy
theorem ld68_put (S : St) (id : Nat) (cs : List AV) (hl : cs.length = 4) : oLoad Tryz.prog (S.put id cs) 68 (.ptr id 0) = some (.agg cs) := by
  have e : cs.take 4 = cs := List.take_of_length_le (by omega)
  simp [oLoad, behind, put_get, a68, s68, hl, e]
theorem al68 (S : St) : oAlloc Tryz.prog S 68 = some (.ptr S.next 0, S.newBox (tokC zeroT)) := rfl
theorem b68_0 : oBuild Tryz.prog 68 [] = some (.agg (tokC zeroT)) := rfl
theorem b68_3 (a b c : AV) (k i : Int) (s : ByteArray) (ha : a = .v (.int .i64 k)) (hb : b = .v (.int .i64 i)) (hc : c = .v (.string s)) : oBuild Tryz.prog 68 [(0, a), (1, b), (2, c)] = some (.agg [a, b, c, u64A 0]) := by
  subst ha; subst hb; subst hc; rfl
theorem b68_4 (k i u : Int) (s : ByteArray) : oBuild Tryz.prog 68 [(0, .v (.int .i64 k)), (1, .v (.int .i64 i)), (2, .v (.string s)), (3, .v (.int .u64 u))] = some (.agg [.v (.int .i64 k), .v (.int .i64 i), .v (.string s), .v (.int .u64 u)]) := rfl
theorem fnOk129 : ∃ fn, E1.F 129 = some fn := Option.isSome_iff_exists.1 (by kernel_rfl)
theorem fnOk132 : ∃ fn, E1.F 132 = some fn := Option.isSome_iff_exists.1 (by kernel_rfl)
theorem fnOk134 : ∃ fn, E1.F 134 = some fn := Option.isSome_iff_exists.1 (by kernel_rfl)
theorem fnOk100 : ∃ fn, E1.F 100 = some fn := Option.isSome_iff_exists.1 (by kernel_rfl)
theorem fnOk102 : ∃ fn, E1.F 102 = some fn := Option.isSome_iff_exists.1 (by kernel_rfl)
theorem fnOk103 : ∃ fn, E1.F 103 = some fn := Option.isSome_iff_exists.1 (by kernel_rfl)
theorem fnOk133 : ∃ fn, E1.F 133 = some fn := Option.isSome_iff_exists.1 (by kernel_rfl)
theorem fnOk65 : ∃ fn, E1.F 65 = some fn := Option.isSome_iff_exists.1 (by kernel_rfl)
theorem fnOk66 : ∃ fn, E1.F 66 = some fn := Option.isSome_iff_exists.1 (by kernel_rfl)
theorem e34_1 : elemT Tryz.prog 69 = some (none, 9) := by kernel_rfl
theorem z9 : zeroA Tryz.prog 9 = some (.v (.string ⟨#[]⟩)) := by kernel_rfl
set_option maxHeartbeats 4000000 in
theorem words_w (S : St) : WC E1 132 [] S (fun r => r = .ret (.sl 1 0 1 (wordsL.map strS)) S) := by
  refine WC_fn Tryz.f132 (by kernel_rfl) (by kernel_rfl) (by kernel_rfl) (show (_ : Nat) ≤ _ from by show (_ : Nat) ≤ _; simp [Tryz.f132]) ?_
  simp only [thenW_normal, thenW_exit, thenW_ret, thenW_pan, W_skip, W_region, W_drawn, W_seq, W_cond, W_block, W_loop, W_exit, W_ret, seqQ_normal, seqQ_exit, seqQ_ret, seqQ_pan, blockW_normal, blockW_ret, blockW_pan, blockW_exit, WL_nil, WL_cons, execL_no, execL_val, execL_skip, execL_enter, execL_pan, putL_none, putL_some, retL_ret, retL_pan, condW_t, condW_f, wantedA, exec1, evalO, initT, T.get_set, T.get_leaf, callA, mapO, ofOpt, ofOptS, ofConst, e1_P, e1_G, partsA, neNil3, finW_ret, finW_pan, giveW, resultsA, tupA, ground_not, notO_bool, fb_lss, fb_leq, fb_gtr, fb_geq, fb_add, fb_eqlI, fb_neqI, Nat.reduceLT, Nat.reduceAdd, Nat.reduceEqDiff, if_true, if_false, reduceIte, true_and, and_true, Option.getD_some, List.getElem?_toArray, List.getElem?_cons_succ, List.getElem?_cons_zero, Option.bind_some, List.nil_append, List.append_nil, beq_self_eq_true, Bool.false_eq_true, Bool.true_eq_false, decide_true, decide_false, Bool.not_true, Bool.not_false, Bool.false_beq, Bool.true_beq, Option.toList, List.head?_cons, List.head?_nil, Tryz.f132]
  have h : ∀ ps, ps = (List.range 25).zip (wordsL.map strS) → oBuildSlice Tryz.prog 69 25 ps = some (.sl 1 0 1 (wordsL.map strS)) := fun ps h => by subst h; kernel_rfl
  rw [h _ (by kernel_rfl)]
  simp only [thenW_normal, thenW_exit, thenW_ret, thenW_pan, W_skip, W_region, W_drawn, W_seq, W_cond, W_block, W_loop, W_exit, W_ret, seqQ_normal, seqQ_exit, seqQ_ret, seqQ_pan, blockW_normal, blockW_ret, blockW_pan, blockW_exit, WL_nil, WL_cons, execL_no, execL_val, execL_skip, execL_enter, execL_pan, putL_none, putL_some, retL_ret, retL_pan, condW_t, condW_f, wantedA, exec1, evalO, initT, T.get_set, T.get_leaf, callA, mapO, ofOpt, ofOptS, ofConst, e1_P, e1_G, partsA, neNil3, finW_ret, finW_pan, giveW, resultsA, tupA, ground_not, notO_bool, fb_lss, fb_leq, fb_gtr, fb_geq, fb_add, fb_eqlI, fb_neqI, Nat.reduceLT, Nat.reduceAdd, Nat.reduceEqDiff, if_true, if_false, reduceIte, true_and, and_true, Option.getD_some, List.getElem?_toArray, List.getElem?_cons_succ, List.getElem?_cons_zero, Option.bind_some, List.nil_append, List.append_nil, beq_self_eq_true, Bool.false_eq_true, Bool.true_eq_false, decide_true, decide_false, Bool.not_true, Bool.not_false, Bool.false_beq, Bool.true_beq, Option.toList, List.head?_cons, List.head?_nil, Tryz.f132]
set_option maxHeartbeats 4000000 in
theorem signs_w (S : St) : WC E1 134 [] S (fun r => r = .ret (.sl 1 0 1 (signsL.map strS)) S) := by
  refine WC_fn Tryz.f134 (by kernel_rfl) (by kernel_rfl) (by kernel_rfl) (show (_ : Nat) ≤ _ from by show (_ : Nat) ≤ _; simp [Tryz.f134]) ?_
  simp only [thenW_normal, thenW_exit, thenW_ret, thenW_pan, W_skip, W_region, W_drawn, W_seq, W_cond, W_block, W_loop, W_exit, W_ret, seqQ_normal, seqQ_exit, seqQ_ret, seqQ_pan, blockW_normal, blockW_ret, blockW_pan, blockW_exit, WL_nil, WL_cons, execL_no, execL_val, execL_skip, execL_enter, execL_pan, putL_none, putL_some, retL_ret, retL_pan, condW_t, condW_f, wantedA, exec1, evalO, initT, T.get_set, T.get_leaf, callA, mapO, ofOpt, ofOptS, ofConst, e1_P, e1_G, partsA, neNil3, finW_ret, finW_pan, giveW, resultsA, tupA, ground_not, notO_bool, fb_lss, fb_leq, fb_gtr, fb_geq, fb_add, fb_eqlI, fb_neqI, Nat.reduceLT, Nat.reduceAdd, Nat.reduceEqDiff, if_true, if_false, reduceIte, true_and, and_true, Option.getD_some, List.getElem?_toArray, List.getElem?_cons_succ, List.getElem?_cons_zero, Option.bind_some, List.nil_append, List.append_nil, beq_self_eq_true, Bool.false_eq_true, Bool.true_eq_false, decide_true, decide_false, Bool.not_true, Bool.not_false, Bool.false_beq, Bool.true_beq, Option.toList, List.head?_cons, List.head?_nil, Tryz.f134]
  have h : ∀ ps, ps = (List.range 16).zip (signsL.map strS) → oBuildSlice Tryz.prog 69 16 ps = some (.sl 1 0 1 (signsL.map strS)) := fun ps h => by subst h; kernel_rfl
  rw [h _ (by kernel_rfl)]
  simp only [thenW_normal, thenW_exit, thenW_ret, thenW_pan, W_skip, W_region, W_drawn, W_seq, W_cond, W_block, W_loop, W_exit, W_ret, seqQ_normal, seqQ_exit, seqQ_ret, seqQ_pan, blockW_normal, blockW_ret, blockW_pan, blockW_exit, WL_nil, WL_cons, execL_no, execL_val, execL_skip, execL_enter, execL_pan, putL_none, putL_some, retL_ret, retL_pan, condW_t, condW_f, wantedA, exec1, evalO, initT, T.get_set, T.get_leaf, callA, mapO, ofOpt, ofOptS, ofConst, e1_P, e1_G, partsA, neNil3, finW_ret, finW_pan, giveW, resultsA, tupA, ground_not, notO_bool, fb_lss, fb_leq, fb_gtr, fb_geq, fb_add, fb_eqlI, fb_neqI, Nat.reduceLT, Nat.reduceAdd, Nat.reduceEqDiff, if_true, if_false, reduceIte, true_and, and_true, Option.getD_some, List.getElem?_toArray, List.getElem?_cons_succ, List.getElem?_cons_zero, Option.bind_some, List.nil_append, List.append_nil, beq_self_eq_true, Bool.false_eq_true, Bool.true_eq_false, decide_true, decide_false, Bool.not_true, Bool.not_false, Bool.false_beq, Bool.true_beq, Option.toList, List.head?_cons, List.head?_nil, Tryz.f134]
theorem digB_eq (b : UInt8) : digB b = isDigit b := rfl
theorem take_all (p : UInt8 → Bool) : ∀ l : List UInt8, (l.take (cnt p l)).all p = true
  | [] => rfl
  | b :: r => by
    unfold cnt
    split
    · rename_i h; rw [List.take_succ_cons, List.all_cons, h, take_all p r]; rfl
    · rfl
theorem parse_w (s : List UInt8) (hn : s ≠ []) (hd : s.all isDigit = true) (h : numV 0 s < 18446744073709551616) (hl : s.length ≤ 100000) (S : St) : WC E1 133 [strS s, .v (.int .i64 10), .v (.int .i64 64)] S (fun r => r = .ret (.tup [u64A (numV 0 s), .v .nilIface]) S) := by
  refine WC_known (g := plainI puI) (by kernel_rfl) ?_
  have hs : (⟨⟨s⟩⟩ : ByteArray).size = s.length := rfl
  have hc : s ≠ [] ∧ s.all digB = true ∧ numV 0 s < 18446744073709551616 ∧ (⟨⟨s⟩⟩ : ByteArray).size ≤ 9223372036854775806 := ⟨hn, hd, h, by rw [hs]; omega⟩
  have e : puI [strS s, .v (.int .i64 10), .v (.int .i64 64)] = some (.tup [u64A (numV 0 s), .v .nilIface]) := by
    show (if s ≠ [] ∧ s.all digB = true ∧ numV 0 s < 18446744073709551616 ∧ (⟨⟨s⟩⟩ : ByteArray).size ≤ 9223372036854775806 then _ else _) = _
    rw [if_pos hc]; rfl
  simp only [plainI, e]
/-- What one of the three answers. -/
def TokRet (S : St) (p : Tk × Nat) (r : R) : Prop := ∃ S', r = .ret (.tup [tokA p.1, intA p.2]) S' ∧ Keep S S'
set_option maxHeartbeats 4000000 in
theorem word_w (l : List UInt8) (hl : l.length ≤ 100000) (i : Nat) (hi : i ≤ l.length) (S : St) : WC E1 100 [strS l, intA i] S (TokRet S (wordT (l.drop i) i)) := by
  refine WC_fn Tryz.f100 (by kernel_rfl) (by kernel_rfl) (by kernel_rfl) (show (_ : Nat) ≤ _ from by show (_ : Nat) ≤ _; simp [Tryz.f100]) ?_
  obtain ⟨fn1, hf1⟩ := fnOk96
  obtain ⟨fn2, hf2⟩ := fnOk129
  obtain ⟨fn3, hf3⟩ := fnOk132
  have hc := cnt_le isWordB (l.drop i)
  rw [List.length_drop] at hc
  have hs := sl9_both l i (i + cnt isWordB (l.drop i)) (by omega) (by omega)
  rw [Nat.add_sub_cancel_left] at hs
  have hL := fun S => len9 S ((l.drop i).take (cnt isWordB (l.drop i)))
  have hlen : ((l.drop i).take (cnt isWordB (l.drop i))).length = cnt isWordB (l.drop i) := by rw [List.length_take, List.length_drop]; omega
  rw [hlen] at hL
  simp only [strS, intA]
  simp only [thenW_normal, thenW_exit, thenW_ret, thenW_pan, W_skip, W_region, W_drawn, W_seq, W_cond, W_block, W_loop, W_exit, W_ret, seqQ_normal, seqQ_exit, seqQ_ret, seqQ_pan, blockW_normal, blockW_ret, blockW_pan, blockW_exit, WL_nil, WL_cons, execL_no, execL_val, execL_skip, execL_enter, execL_pan, putL_none, putL_some, retL_ret, retL_pan, condW_t, condW_f, wantedA, exec1, evalO, initT, T.get_set, T.get_leaf, callA, mapO, ofOpt, ofOptS, ofConst, e1_P, e1_G, partsA, neNil3, finW_ret, finW_pan, giveW, resultsA, tupA, ground_not, notO_bool, fb_lss, fb_leq, fb_gtr, fb_geq, fb_add, fb_eqlI, fb_neqI, Nat.reduceLT, Nat.reduceAdd, Nat.reduceEqDiff, if_true, if_false, reduceIte, true_and, and_true, Option.getD_some, List.getElem?_toArray, List.getElem?_cons_succ, List.getElem?_cons_zero, Option.bind_some, List.nil_append, List.append_nil, beq_self_eq_true, Bool.false_eq_true, Bool.true_eq_false, decide_true, decide_false, Bool.not_true, Bool.not_false, Bool.false_beq, Bool.true_beq, Option.toList, List.head?_cons, List.head?_nil, Tryz.f100, al68, hf1, hf2, hf3]
  refine WC.mono (behind_w wordBT l hl i hi _) ?_
  rintro _ rfl
  simp only [intA]
  simp only [thenW_normal, thenW_exit, thenW_ret, thenW_pan, W_skip, W_region, W_drawn, W_seq, W_cond, W_block, W_loop, W_exit, W_ret, seqQ_normal, seqQ_exit, seqQ_ret, seqQ_pan, blockW_normal, blockW_ret, blockW_pan, blockW_exit, WL_nil, WL_cons, execL_no, execL_val, execL_skip, execL_enter, execL_pan, putL_none, putL_some, retL_ret, retL_pan, condW_t, condW_f, wantedA, exec1, evalO, initT, T.get_set, T.get_leaf, callA, mapO, ofOpt, ofOptS, ofConst, e1_P, e1_G, partsA, neNil3, finW_ret, finW_pan, giveW, resultsA, tupA, ground_not, notO_bool, fb_lss, fb_leq, fb_gtr, fb_geq, fb_add, fb_eqlI, fb_neqI, Nat.reduceLT, Nat.reduceAdd, Nat.reduceEqDiff, if_true, if_false, reduceIte, true_and, and_true, Option.getD_some, List.getElem?_toArray, List.getElem?_cons_succ, List.getElem?_cons_zero, Option.bind_some, List.nil_append, List.append_nil, beq_self_eq_true, Bool.false_eq_true, Bool.true_eq_false, decide_true, decide_false, Bool.not_true, Bool.not_false, Bool.false_beq, Bool.true_beq, Option.toList, List.head?_cons, List.head?_nil, Tryz.f100, al68, hf1, hf2, hf3, hs]
  refine WC.mono (words_w _) ?_
  rintro _ rfl
  simp only [thenW_normal, thenW_exit, thenW_ret, thenW_pan, W_skip, W_region, W_drawn, W_seq, W_cond, W_block, W_loop, W_exit, W_ret, seqQ_normal, seqQ_exit, seqQ_ret, seqQ_pan, blockW_normal, blockW_ret, blockW_pan, blockW_exit, WL_nil, WL_cons, execL_no, execL_val, execL_skip, execL_enter, execL_pan, putL_none, putL_some, retL_ret, retL_pan, condW_t, condW_f, wantedA, exec1, evalO, initT, T.get_set, T.get_leaf, callA, mapO, ofOpt, ofOptS, ofConst, e1_P, e1_G, partsA, neNil3, finW_ret, finW_pan, giveW, resultsA, tupA, ground_not, notO_bool, fb_lss, fb_leq, fb_gtr, fb_geq, fb_add, fb_eqlI, fb_neqI, Nat.reduceLT, Nat.reduceAdd, Nat.reduceEqDiff, if_true, if_false, reduceIte, true_and, and_true, Option.getD_some, List.getElem?_toArray, List.getElem?_cons_succ, List.getElem?_cons_zero, Option.bind_some, List.nil_append, List.append_nil, beq_self_eq_true, Bool.false_eq_true, Bool.true_eq_false, decide_true, decide_false, Bool.not_true, Bool.not_false, Bool.false_beq, Bool.true_beq, Option.toList, List.head?_cons, List.head?_nil, Tryz.f100, al68, hf1, hf2, hf3, hs]
  refine WC.mono (contains_w 1 0 wordsL ((l.drop i).take (cnt isWordB (l.drop i))) (by decide) _) ?_
  rintro _ rfl
  have hst : ∀ ys : List AV, ys.length = 4 → oStore Tryz.prog (S.newBox (tokC zeroT)) 68 (.ptr S.next 0) (.agg ys) = some ((S.newBox (tokC zeroT)).put S.next ys) := fun ys hy => st68_new S _ ys rfl hy
  have keep : ∀ ys, Keep S ((S.newBox (tokC zeroT)).put S.next ys) := fun ys => keep_put (keep_new S _) (Nat.le_refl _) ys
  by_cases hm : (l.drop i).take (cnt isWordB (l.drop i)) ∈ wordsL
  · have e : wordT (l.drop i) i = (⟨3, i, (l.drop i).take (cnt isWordB (l.drop i)), 0⟩, 0) := by unfold wordT; rw [if_pos hm]
    rw [decide_eq_true hm]
    have hb := b68_3 _ _ _ 3 i ⟨⟨(l.drop i).take (cnt isWordB (l.drop i))⟩⟩ rfl rfl rfl
    have h1 := hst [.v (.int .i64 3), .v (.int .i64 i), .v (.string ⟨⟨(l.drop i).take (cnt isWordB (l.drop i))⟩⟩), u64A 0] rfl
    have h2 := ld68_put (S.newBox (tokC zeroT)) S.next [.v (.int .i64 3), .v (.int .i64 i), .v (.string ⟨⟨(l.drop i).take (cnt isWordB (l.drop i))⟩⟩), u64A 0] rfl
    simp only [thenW_normal, thenW_exit, thenW_ret, thenW_pan, W_skip, W_region, W_drawn, W_seq, W_cond, W_block, W_loop, W_exit, W_ret, seqQ_normal, seqQ_exit, seqQ_ret, seqQ_pan, blockW_normal, blockW_ret, blockW_pan, blockW_exit, WL_nil, WL_cons, execL_no, execL_val, execL_skip, execL_enter, execL_pan, putL_none, putL_some, retL_ret, retL_pan, condW_t, condW_f, wantedA, exec1, evalO, initT, T.get_set, T.get_leaf, callA, mapO, ofOpt, ofOptS, ofConst, e1_P, e1_G, partsA, neNil3, finW_ret, finW_pan, giveW, resultsA, tupA, ground_not, notO_bool, fb_lss, fb_leq, fb_gtr, fb_geq, fb_add, fb_eqlI, fb_neqI, Nat.reduceLT, Nat.reduceAdd, Nat.reduceEqDiff, if_true, if_false, reduceIte, true_and, and_true, Option.getD_some, List.getElem?_toArray, List.getElem?_cons_succ, List.getElem?_cons_zero, Option.bind_some, List.nil_append, List.append_nil, beq_self_eq_true, Bool.false_eq_true, Bool.true_eq_false, decide_true, decide_false, Bool.not_true, Bool.not_false, Bool.false_beq, Bool.true_beq, Option.toList, List.head?_cons, List.head?_nil, Tryz.f100, hb, h1, h2]
    rw [e]
    exact ⟨_, rfl, keep _⟩
  · rw [decide_eq_false hm]
    by_cases h30 : 30 < cnt isWordB (l.drop i)
    · have e : wordT (l.drop i) i = (zeroT, 3) := by unfold wordT; rw [if_neg hm, if_pos h30]
      have hg : ((cnt isWordB (l.drop i) : Nat) : Int) > 30 := by omega
      have h1 := hst (tokC zeroT) rfl
      have h2 := ld68_put (S.newBox (tokC zeroT)) S.next (tokC zeroT) rfl
      simp only [thenW_normal, thenW_exit, thenW_ret, thenW_pan, W_skip, W_region, W_drawn, W_seq, W_cond, W_block, W_loop, W_exit, W_ret, seqQ_normal, seqQ_exit, seqQ_ret, seqQ_pan, blockW_normal, blockW_ret, blockW_pan, blockW_exit, WL_nil, WL_cons, execL_no, execL_val, execL_skip, execL_enter, execL_pan, putL_none, putL_some, retL_ret, retL_pan, condW_t, condW_f, wantedA, exec1, evalO, initT, T.get_set, T.get_leaf, callA, mapO, ofOpt, ofOptS, ofConst, e1_P, e1_G, partsA, neNil3, finW_ret, finW_pan, giveW, resultsA, tupA, ground_not, notO_bool, fb_lss, fb_leq, fb_gtr, fb_geq, fb_add, fb_eqlI, fb_neqI, Nat.reduceLT, Nat.reduceAdd, Nat.reduceEqDiff, if_true, if_false, reduceIte, true_and, and_true, Option.getD_some, List.getElem?_toArray, List.getElem?_cons_succ, List.getElem?_cons_zero, Option.bind_some, List.nil_append, List.append_nil, beq_self_eq_true, Bool.false_eq_true, Bool.true_eq_false, decide_true, decide_false, Bool.not_true, Bool.not_false, Bool.false_beq, Bool.true_beq, Option.toList, List.head?_cons, List.head?_nil, Tryz.f100, hL, hg, b68_0, h1, h2]
      rw [e]
      exact ⟨_, rfl, keep _⟩
    · have e : wordT (l.drop i) i = (⟨1, i, (l.drop i).take (cnt isWordB (l.drop i)), 0⟩, 0) := by unfold wordT; rw [if_neg hm, if_neg h30]
      have hg : ¬ ((cnt isWordB (l.drop i) : Nat) : Int) > 30 := by omega
      have hb := b68_3 _ _ _ 1 i ⟨⟨(l.drop i).take (cnt isWordB (l.drop i))⟩⟩ rfl rfl rfl
      have h1 := hst [.v (.int .i64 1), .v (.int .i64 i), .v (.string ⟨⟨(l.drop i).take (cnt isWordB (l.drop i))⟩⟩), u64A 0] rfl
      have h2 := ld68_put (S.newBox (tokC zeroT)) S.next [.v (.int .i64 1), .v (.int .i64 i), .v (.string ⟨⟨(l.drop i).take (cnt isWordB (l.drop i))⟩⟩), u64A 0] rfl
      simp only [thenW_normal, thenW_exit, thenW_ret, thenW_pan, W_skip, W_region, W_drawn, W_seq, W_cond, W_block, W_loop, W_exit, W_ret, seqQ_normal, seqQ_exit, seqQ_ret, seqQ_pan, blockW_normal, blockW_ret, blockW_pan, blockW_exit, WL_nil, WL_cons, execL_no, execL_val, execL_skip, execL_enter, execL_pan, putL_none, putL_some, retL_ret, retL_pan, condW_t, condW_f, wantedA, exec1, evalO, initT, T.get_set, T.get_leaf, callA, mapO, ofOpt, ofOptS, ofConst, e1_P, e1_G, partsA, neNil3, finW_ret, finW_pan, giveW, resultsA, tupA, ground_not, notO_bool, fb_lss, fb_leq, fb_gtr, fb_geq, fb_add, fb_eqlI, fb_neqI, Nat.reduceLT, Nat.reduceAdd, Nat.reduceEqDiff, if_true, if_false, reduceIte, true_and, and_true, Option.getD_some, List.getElem?_toArray, List.getElem?_cons_succ, List.getElem?_cons_zero, Option.bind_some, List.nil_append, List.append_nil, beq_self_eq_true, Bool.false_eq_true, Bool.true_eq_false, decide_true, decide_false, Bool.not_true, Bool.not_false, Bool.false_beq, Bool.true_beq, Option.toList, List.head?_cons, List.head?_nil, Tryz.f100, hL, hg, hb, h1, h2]
      rw [e]
      exact ⟨_, rfl, keep _⟩
end Go.Ax
noncomputable section
namespace Go.Ax
open Go.RowKit Go.Proofs
set_option linter.unusedVariables false
set_option linter.unusedSimpArgs false
set_option maxRecDepth 100000

theorem neNil66 (a b : AV) : neNil Tryz.prog 66 a b = false := by
  have h : Tryz.prog.underlying 66 = some (.int .u64) := rfl
  unfold neNil; rw [h]
theorem neNil110 : neNil Tryz.prog 110 (.v .nilIface) (.v .nilIface) = false := by kernel_rfl
def nilO (r : OR) (S : St) (x : Option AV) : OR := match x with
  | some (.v .nilIface) => .val (.v (.bool false)) S
  | _ => r
def eqOrX (P : Program) (G : Gl) (f : T AV) (S : St) (o : Oper) (op : BinOp) (t : TypeId) (a b : AV) : OR := eqOr P G f S o op t a b
theorem eqOr110 (f : T AV) (S : St) (k : Nat) (dst : Option Tmp) (ty : TypeId) (pos : String) (af : Array Edge) (gd : Option (Nat × Bool)) :
    eqOr Tryz.prog (fun _ => none) f S { dst := dst, op := .binOp .neq 110 (.tmp k) (.const .nilIface) 110, type := ty, pos := pos, after := af, guard := gd } .neq 110 (.v .nilIface) (.v .nilIface) =
    nilO (eqOrX Tryz.prog (fun _ => none) f S { dst := dst, op := .binOp .neq 110 (.tmp k) (.const .nilIface) 110, type := ty, pos := pos, after := af, guard := gd } .neq 110 (.v .nilIface) (.v .nilIface)) S (f.get k) := by
  unfold nilO
  split
  · rename_i hf
    have h0 : fastEq Tryz.prog .neq 110 (.v .nilIface) (.v .nilIface) = none := by kernel_rfl
    unfold eqOr
    rw [h0]
    have hg : groundO (fun _ => none) f (.tmp k) = some .nilIface := by unfold groundO; simp only [evalO, hf]; rfl
    have hc : groundO (fun _ => none) f (.const .nilIface) = some .nilIface := rfl
    unfold ground
    simp only [Op.operands, List.all_cons, List.all_nil, hg, hc, Option.isSome_some, Bool.and_self, if_true]
    have e : execOp (fun x => (groundO (fun _ => none) f x).getD undef) { dst := dst, op := .binOp .neq 110 (.tmp k) (.const .nilIface) 110, type := ty, pos := pos, after := af, guard := gd } = execOp (fun _ => .nilIface) { dst := none, op := .binOp .neq 110 (.tmp 29) (.const .nilIface) 110, type := 4, pos := "", after := #[], guard := none } := by
      simp only [execOp, hg, hc, Option.getD_some]
      rfl
    rw [e]
    have e3 : (pureN Tryz.prog 4000 (execOp (fun _ => Value.nilIface) { dst := none, op := .binOp .neq 110 (.tmp 29) (.const .nilIface) 110, type := 4, pos := "", after := #[], guard := none })) = some (.bool false) := by kernel_rfl
    rw [e3]; rfl
  · rfl
theorem nilO_nil (r : OR) (S : St) : nilO r S (some (.v .nilIface)) = .val (.v (.bool false)) S := rfl
theorem fbNil : fastBin .neq (.v .nilIface) (.v .nilIface) = none := rfl
theorem head_drop (l : List UInt8) (i : Nat) (h : i < l.length) : (l.drop i).head? = some l[i] := by rw [List.drop_eq_getElem_cons h]; rfl
set_option maxHeartbeats 8000000 in
theorem number_w (l : List UInt8) (hl : l.length ≤ 100000) (i : Nat) (hi : i < l.length) (hd : isDigit l[i] = true) (S : St) (p : Tk × Nat) (hp : numT (l.drop i) i = some p) : WC E1 102 [strS l, intA i] S (TokRet S p) := by
  refine WC_fn Tryz.f102 (by kernel_rfl) (by kernel_rfl) (by kernel_rfl) (show (_ : Nat) ≤ _ from by show (_ : Nat) ≤ _; simp [Tryz.f102]) ?_
  obtain ⟨fn1, hf1⟩ := fnOk96
  obtain ⟨fn2, hf2⟩ := fnOk133
  have hc := cnt_le isDigit (l.drop i)
  rw [List.length_drop] at hc
  have hc1 : 1 ≤ cnt isDigit (l.drop i) := by rw [List.drop_eq_getElem_cons hi, cnt, if_pos hd]; omega
  have hs := sl9_both l i (i + cnt isDigit (l.drop i)) (by omega) (by omega)
  rw [Nat.add_sub_cancel_left] at hs
  have hL := fun S => len9 S ((l.drop i).take (cnt isDigit (l.drop i)))
  have hlen : ((l.drop i).take (cnt isDigit (l.drop i))).length = cnt isDigit (l.drop i) := by rw [List.length_take, List.length_drop]; omega
  rw [hlen] at hL
  have h00 : ((l.drop i).take (cnt isDigit (l.drop i)))[0]'(by omega) = l[i] := by simp
  have hx := idx9 ((l.drop i).take (cnt isDigit (l.drop i))) 0 (by omega)
  rw [h00] at hx
  simp only [Int.ofNat_eq_natCast, Int.cast_ofNat_Int] at hx
  have hst : ∀ ys : List AV, ys.length = 4 → oStore Tryz.prog (S.newBox (tokC zeroT)) 68 (.ptr S.next 0) (.agg ys) = some ((S.newBox (tokC zeroT)).put S.next ys) := fun ys hy => st68_new S _ ys rfl hy
  have keep : ∀ ys, Keep S ((S.newBox (tokC zeroT)).put S.next ys) := fun ys => keep_put (keep_new S _) (Nat.le_refl _) ys
  have z1 := hst (tokC zeroT) rfl
  have z2 := ld68_put (S.newBox (tokC zeroT)) S.next (tokC zeroT) rfl
  simp only [strS, intA]
  simp only [thenW_normal, thenW_exit, thenW_ret, thenW_pan, W_skip, W_region, W_drawn, W_seq, W_cond, W_block, W_loop, W_exit, W_ret, seqQ_normal, seqQ_exit, seqQ_ret, seqQ_pan, blockW_normal, blockW_ret, blockW_pan, blockW_exit, WL_nil, WL_cons, execL_no, execL_val, execL_skip, execL_enter, execL_pan, putL_none, putL_some, retL_ret, retL_pan, condW_t, condW_f, wantedA, exec1, evalO, initT, T.get_set, T.get_leaf, callA, mapO, ofOpt, ofOptS, ofConst, e1_P, e1_G, partsA, neNil3, finW_ret, finW_pan, giveW, resultsA, tupA, ground_not, notO_bool, fb_lss, fb_leq, fb_gtr, fb_geq, fb_add, fb_eqlI, fb_neqI, Nat.reduceLT, Nat.reduceAdd, Nat.reduceEqDiff, if_true, if_false, reduceIte, true_and, and_true, Option.getD_some, List.getElem?_toArray, List.getElem?_cons_succ, List.getElem?_cons_zero, Option.bind_some, List.nil_append, List.append_nil, beq_self_eq_true, Bool.false_eq_true, Bool.true_eq_false, decide_true, decide_false, Bool.not_true, Bool.not_false, Bool.false_beq, Bool.true_beq, Option.toList, List.head?_cons, List.head?_nil, Tryz.f102, al68, hf1, hf2]
  refine WC.mono (behind_w digitT l hl i (by omega) _) ?_
  rintro _ rfl
  simp only [intA]
  have h48 : (((l[i].toNat : Nat) : Int) == 48) = decide (l[i] = 48) := by
    rw [Bool.eq_iff_iff]; simp only [beq_iff_eq, decide_eq_true_iff]
    constructor
    · intro h; exact UInt8.toNat_inj.1 (by show l[i].toNat = 48; omega)
    · intro h; rw [h]; rfl
  unfold numT at hp
  rw [head_drop l i hi] at hp
  by_cases hz : 1 < cnt isDigit (l.drop i) ∧ l[i] = 48
  · rw [if_pos ⟨hz.1, by rw [hz.2]⟩] at hp
    injection hp with hp; subst hp
    have hg : ((cnt isDigit (l.drop i) : Nat) : Int) > 1 := by omega
    rw [decide_eq_true hz.2] at h48
    simp only [thenW_normal, thenW_exit, thenW_ret, thenW_pan, W_skip, W_region, W_drawn, W_seq, W_cond, W_block, W_loop, W_exit, W_ret, seqQ_normal, seqQ_exit, seqQ_ret, seqQ_pan, blockW_normal, blockW_ret, blockW_pan, blockW_exit, WL_nil, WL_cons, execL_no, execL_val, execL_skip, execL_enter, execL_pan, putL_none, putL_some, retL_ret, retL_pan, condW_t, condW_f, wantedA, exec1, evalO, initT, T.get_set, T.get_leaf, callA, mapO, ofOpt, ofOptS, ofConst, e1_P, e1_G, partsA, neNil3, finW_ret, finW_pan, giveW, resultsA, tupA, ground_not, notO_bool, fb_lss, fb_leq, fb_gtr, fb_geq, fb_add, fb_eqlI, fb_neqI, Nat.reduceLT, Nat.reduceAdd, Nat.reduceEqDiff, if_true, if_false, reduceIte, true_and, and_true, Option.getD_some, List.getElem?_toArray, List.getElem?_cons_succ, List.getElem?_cons_zero, Option.bind_some, List.nil_append, List.append_nil, beq_self_eq_true, Bool.false_eq_true, Bool.true_eq_false, decide_true, decide_false, Bool.not_true, Bool.not_false, Bool.false_beq, Bool.true_beq, Option.toList, List.head?_cons, List.head?_nil, Tryz.f102, al68, hf1, hf2, hs, hL, hg, hx, byteA, neNil5, h48, b68_0, z1, z2]
    exact ⟨_, rfl, keep _⟩
  · rw [if_neg (fun h => hz ⟨h.1, by have := h.2; injection this⟩)] at hp
    split at hp
    case isFalse => cases hp
    rename_i hv
    have hpw := fun S => parse_w ((l.drop i).take (cnt isDigit (l.drop i))) (by intro e; rw [e] at hlen; simp at hlen; omega) (take_all _ _) hv (by omega) S
    unfold strS u64A at hpw
    by_cases hg : ((cnt isDigit (l.drop i) : Nat) : Int) > 1
    · have h1 : ¬ l[i] = 48 := fun e => hz ⟨by omega, e⟩
      rw [decide_eq_false h1] at h48
      simp only [thenW_normal, thenW_exit, thenW_ret, thenW_pan, W_skip, W_region, W_drawn, W_seq, W_cond, W_block, W_loop, W_exit, W_ret, seqQ_normal, seqQ_exit, seqQ_ret, seqQ_pan, blockW_normal, blockW_ret, blockW_pan, blockW_exit, WL_nil, WL_cons, execL_no, execL_val, execL_skip, execL_enter, execL_pan, putL_none, putL_some, retL_ret, retL_pan, condW_t, condW_f, wantedA, exec1, evalO, initT, T.get_set, T.get_leaf, callA, mapO, ofOpt, ofOptS, ofConst, e1_P, e1_G, partsA, neNil3, finW_ret, finW_pan, giveW, resultsA, tupA, ground_not, notO_bool, fb_lss, fb_leq, fb_gtr, fb_geq, fb_add, fb_eqlI, fb_neqI, Nat.reduceLT, Nat.reduceAdd, Nat.reduceEqDiff, if_true, if_false, reduceIte, true_and, and_true, Option.getD_some, List.getElem?_toArray, List.getElem?_cons_succ, List.getElem?_cons_zero, Option.bind_some, List.nil_append, List.append_nil, beq_self_eq_true, Bool.false_eq_true, Bool.true_eq_false, decide_true, decide_false, Bool.not_true, Bool.not_false, Bool.false_beq, Bool.true_beq, Option.toList, List.head?_cons, List.head?_nil, Tryz.f102, al68, hf1, hf2, hs, hL, hg, hx, byteA, neNil5, h48]
      refine WC.mono (hpw _) ?_
      rintro _ rfl
      by_cases hb : ((numV 0 ((l.drop i).take (cnt isDigit (l.drop i))) : Nat) : Int) > 9223372036854775808
      · rw [if_pos (show 9223372036854775808 < numV 0 ((l.drop i).take (cnt isDigit (l.drop i))) by omega)] at hp
        injection hp with hp; subst hp
        simp only [thenW_normal, thenW_exit, thenW_ret, thenW_pan, W_skip, W_region, W_drawn, W_seq, W_cond, W_block, W_loop, W_exit, W_ret, seqQ_normal, seqQ_exit, seqQ_ret, seqQ_pan, blockW_normal, blockW_ret, blockW_pan, blockW_exit, WL_nil, WL_cons, execL_no, execL_val, execL_skip, execL_enter, execL_pan, putL_none, putL_some, retL_ret, retL_pan, condW_t, condW_f, wantedA, exec1, evalO, initT, T.get_set, T.get_leaf, callA, mapO, ofOpt, ofOptS, ofConst, e1_P, e1_G, partsA, neNil3, finW_ret, finW_pan, giveW, resultsA, tupA, ground_not, notO_bool, fb_lss, fb_leq, fb_gtr, fb_geq, fb_add, fb_eqlI, fb_neqI, Nat.reduceLT, Nat.reduceAdd, Nat.reduceEqDiff, if_true, if_false, reduceIte, true_and, and_true, Option.getD_some, List.getElem?_toArray, List.getElem?_cons_succ, List.getElem?_cons_zero, Option.bind_some, List.nil_append, List.append_nil, beq_self_eq_true, Bool.false_eq_true, Bool.true_eq_false, decide_true, decide_false, Bool.not_true, Bool.not_false, Bool.false_beq, Bool.true_beq, Option.toList, List.head?_cons, List.head?_nil, Tryz.f102, neNil66, eqOr110, nilO_nil, oExtract, neNil110, fbNil, List.getElem?_cons_succ, List.getElem?_cons_zero, hb, b68_0, z1, z2]
        exact ⟨_, rfl, keep _⟩
      · rw [if_neg (show ¬ 9223372036854775808 < numV 0 ((l.drop i).take (cnt isDigit (l.drop i))) by omega)] at hp
        injection hp with hp; subst hp
        have q1 := hst [.v (.int .i64 2), .v (.int .i64 i), .v (.string ⟨⟨(l.drop i).take (cnt isDigit (l.drop i))⟩⟩), .v (.int .u64 (numV 0 ((l.drop i).take (cnt isDigit (l.drop i))) : Nat))] rfl
        have q2 := ld68_put (S.newBox (tokC zeroT)) S.next [.v (.int .i64 2), .v (.int .i64 i), .v (.string ⟨⟨(l.drop i).take (cnt isDigit (l.drop i))⟩⟩), .v (.int .u64 (numV 0 ((l.drop i).take (cnt isDigit (l.drop i))) : Nat))] rfl
        simp only [thenW_normal, thenW_exit, thenW_ret, thenW_pan, W_skip, W_region, W_drawn, W_seq, W_cond, W_block, W_loop, W_exit, W_ret, seqQ_normal, seqQ_exit, seqQ_ret, seqQ_pan, blockW_normal, blockW_ret, blockW_pan, blockW_exit, WL_nil, WL_cons, execL_no, execL_val, execL_skip, execL_enter, execL_pan, putL_none, putL_some, retL_ret, retL_pan, condW_t, condW_f, wantedA, exec1, evalO, initT, T.get_set, T.get_leaf, callA, mapO, ofOpt, ofOptS, ofConst, e1_P, e1_G, partsA, neNil3, finW_ret, finW_pan, giveW, resultsA, tupA, ground_not, notO_bool, fb_lss, fb_leq, fb_gtr, fb_geq, fb_add, fb_eqlI, fb_neqI, Nat.reduceLT, Nat.reduceAdd, Nat.reduceEqDiff, if_true, if_false, reduceIte, true_and, and_true, Option.getD_some, List.getElem?_toArray, List.getElem?_cons_succ, List.getElem?_cons_zero, Option.bind_some, List.nil_append, List.append_nil, beq_self_eq_true, Bool.false_eq_true, Bool.true_eq_false, decide_true, decide_false, Bool.not_true, Bool.not_false, Bool.false_beq, Bool.true_beq, Option.toList, List.head?_cons, List.head?_nil, Tryz.f102, neNil66, eqOr110, nilO_nil, oExtract, neNil110, fbNil, List.getElem?_cons_succ, List.getElem?_cons_zero, hb, b68_4, q1, q2]
        exact ⟨_, rfl, keep _⟩
    · simp only [thenW_normal, thenW_exit, thenW_ret, thenW_pan, W_skip, W_region, W_drawn, W_seq, W_cond, W_block, W_loop, W_exit, W_ret, seqQ_normal, seqQ_exit, seqQ_ret, seqQ_pan, blockW_normal, blockW_ret, blockW_pan, blockW_exit, WL_nil, WL_cons, execL_no, execL_val, execL_skip, execL_enter, execL_pan, putL_none, putL_some, retL_ret, retL_pan, condW_t, condW_f, wantedA, exec1, evalO, initT, T.get_set, T.get_leaf, callA, mapO, ofOpt, ofOptS, ofConst, e1_P, e1_G, partsA, neNil3, finW_ret, finW_pan, giveW, resultsA, tupA, ground_not, notO_bool, fb_lss, fb_leq, fb_gtr, fb_geq, fb_add, fb_eqlI, fb_neqI, Nat.reduceLT, Nat.reduceAdd, Nat.reduceEqDiff, if_true, if_false, reduceIte, true_and, and_true, Option.getD_some, List.getElem?_toArray, List.getElem?_cons_succ, List.getElem?_cons_zero, Option.bind_some, List.nil_append, List.append_nil, beq_self_eq_true, Bool.false_eq_true, Bool.true_eq_false, decide_true, decide_false, Bool.not_true, Bool.not_false, Bool.false_beq, Bool.true_beq, Option.toList, List.head?_cons, List.head?_nil, Tryz.f102, al68, hf1, hf2, hs, hL, hg]
      refine WC.mono (hpw _) ?_
      rintro _ rfl
      by_cases hb : ((numV 0 ((l.drop i).take (cnt isDigit (l.drop i))) : Nat) : Int) > 9223372036854775808
      · rw [if_pos (show 9223372036854775808 < numV 0 ((l.drop i).take (cnt isDigit (l.drop i))) by omega)] at hp
        injection hp with hp; subst hp
        simp only [thenW_normal, thenW_exit, thenW_ret, thenW_pan, W_skip, W_region, W_drawn, W_seq, W_cond, W_block, W_loop, W_exit, W_ret, seqQ_normal, seqQ_exit, seqQ_ret, seqQ_pan, blockW_normal, blockW_ret, blockW_pan, blockW_exit, WL_nil, WL_cons, execL_no, execL_val, execL_skip, execL_enter, execL_pan, putL_none, putL_some, retL_ret, retL_pan, condW_t, condW_f, wantedA, exec1, evalO, initT, T.get_set, T.get_leaf, callA, mapO, ofOpt, ofOptS, ofConst, e1_P, e1_G, partsA, neNil3, finW_ret, finW_pan, giveW, resultsA, tupA, ground_not, notO_bool, fb_lss, fb_leq, fb_gtr, fb_geq, fb_add, fb_eqlI, fb_neqI, Nat.reduceLT, Nat.reduceAdd, Nat.reduceEqDiff, if_true, if_false, reduceIte, true_and, and_true, Option.getD_some, List.getElem?_toArray, List.getElem?_cons_succ, List.getElem?_cons_zero, Option.bind_some, List.nil_append, List.append_nil, beq_self_eq_true, Bool.false_eq_true, Bool.true_eq_false, decide_true, decide_false, Bool.not_true, Bool.not_false, Bool.false_beq, Bool.true_beq, Option.toList, List.head?_cons, List.head?_nil, Tryz.f102, neNil66, eqOr110, nilO_nil, oExtract, neNil110, fbNil, List.getElem?_cons_succ, List.getElem?_cons_zero, hb, b68_0, z1, z2]
        exact ⟨_, rfl, keep _⟩
      · rw [if_neg (show ¬ 9223372036854775808 < numV 0 ((l.drop i).take (cnt isDigit (l.drop i))) by omega)] at hp
        injection hp with hp; subst hp
        have q1 := hst [.v (.int .i64 2), .v (.int .i64 i), .v (.string ⟨⟨(l.drop i).take (cnt isDigit (l.drop i))⟩⟩), .v (.int .u64 (numV 0 ((l.drop i).take (cnt isDigit (l.drop i))) : Nat))] rfl
        have q2 := ld68_put (S.newBox (tokC zeroT)) S.next [.v (.int .i64 2), .v (.int .i64 i), .v (.string ⟨⟨(l.drop i).take (cnt isDigit (l.drop i))⟩⟩), .v (.int .u64 (numV 0 ((l.drop i).take (cnt isDigit (l.drop i))) : Nat))] rfl
        simp only [thenW_normal, thenW_exit, thenW_ret, thenW_pan, W_skip, W_region, W_drawn, W_seq, W_cond, W_block, W_loop, W_exit, W_ret, seqQ_normal, seqQ_exit, seqQ_ret, seqQ_pan, blockW_normal, blockW_ret, blockW_pan, blockW_exit, WL_nil, WL_cons, execL_no, execL_val, execL_skip, execL_enter, execL_pan, putL_none, putL_some, retL_ret, retL_pan, condW_t, condW_f, wantedA, exec1, evalO, initT, T.get_set, T.get_leaf, callA, mapO, ofOpt, ofOptS, ofConst, e1_P, e1_G, partsA, neNil3, finW_ret, finW_pan, giveW, resultsA, tupA, ground_not, notO_bool, fb_lss, fb_leq, fb_gtr, fb_geq, fb_add, fb_eqlI, fb_neqI, Nat.reduceLT, Nat.reduceAdd, Nat.reduceEqDiff, if_true, if_false, reduceIte, true_and, and_true, Option.getD_some, List.getElem?_toArray, List.getElem?_cons_succ, List.getElem?_cons_zero, Option.bind_some, List.nil_append, List.append_nil, beq_self_eq_true, Bool.false_eq_true, Bool.true_eq_false, decide_true, decide_false, Bool.not_true, Bool.not_false, Bool.false_beq, Bool.true_beq, Option.toList, List.head?_cons, List.head?_nil, Tryz.f102, neNil66, eqOr110, nilO_nil, oExtract, neNil110, fbNil, List.getElem?_cons_succ, List.getElem?_cons_zero, hb, b68_4, q1, q2]
        exact ⟨_, rfl, keep _⟩
noncomputable def signBody : Code := match Tryz.f103.body with
  | some (.seq _ (.seq (.seq _ (.block _ (.loop c))) _)) => c
  | _ => .skip
set_option maxHeartbeats 8000000 in
theorem sign_loop (l : List UInt8) (i : Nat) (hi : i ≤ l.length) (S : St) (b : Nat) (hS : S.mem.get b = some (.box (tokC zeroT))) : ∀ (m j : Nat) (t : T AV), j + m = signsL.length → t.get 0 = some (strS l) → t.get 1 = some (intA i) → t.get 4 = some (.ptr b 0) → t.get 8 = some (.sl 1 0 1 (signsL.map strS)) → t.get 9 = some (intA signsL.length) → t.get 10 = some (intA j) →
    WX E1 24 (.loop signBody) ⟨t, []⟩ S (fun r => ∃ t', t'.get 4 = some (.ptr b 0) ∧ ((r = .out (.exit 0) ⟨t', []⟩ S ∧ (signsL.drop j).find? (fun s => startsW s (l.drop i)) = none) ∨ (∃ s, r = .out .ret ⟨t', []⟩ (S.put b (tokC ⟨4, i, s, 0⟩)) ∧ t'.get 5 = some (intA 0) ∧ (signsL.drop j).find? (fun s => startsW s (l.drop i)) = some s)))
  | 0, j, t, hj, h0, h1, h4, h8, h9, h10 => by
    refine WX_loop (W_sound ?_)
    have hlt : ¬ ((j : Int) < (signsL.length : Int)) := by omega
    have hd : signsL.drop j = [] := List.drop_eq_nil_of_le (by omega)
    simp only [strS, intA] at h0 h1 h8 h9 h10 ⊢
    simp only [thenW_normal, thenW_exit, thenW_ret, thenW_pan, W_skip, W_region, W_drawn, W_seq, W_cond, W_block, W_loop, W_exit, W_ret, seqQ_normal, seqQ_exit, seqQ_ret, seqQ_pan, blockW_normal, blockW_ret, blockW_pan, blockW_exit, WL_nil, WL_cons, execL_no, execL_val, execL_skip, execL_enter, execL_pan, putL_none, putL_some, retL_ret, retL_pan, condW_t, condW_f, wantedA, exec1, evalO, initT, T.get_set, T.get_leaf, callA, mapO, ofOpt, ofOptS, ofConst, e1_P, e1_G, partsA, neNil3, finW_ret, finW_pan, giveW, resultsA, tupA, ground_not, notO_bool, fb_lss, fb_leq, fb_gtr, fb_geq, fb_add, fb_eqlI, fb_neqI, Nat.reduceLT, Nat.reduceAdd, Nat.reduceEqDiff, if_true, if_false, reduceIte, true_and, and_true, Option.getD_some, List.getElem?_toArray, List.getElem?_cons_succ, List.getElem?_cons_zero, Option.bind_some, List.nil_append, List.append_nil, beq_self_eq_true, Bool.false_eq_true, Bool.true_eq_false, decide_true, decide_false, Bool.not_true, Bool.not_false, Bool.false_beq, Bool.true_beq, Option.toList, List.head?_cons, List.head?_nil, signBody, Tryz.f103, h0, h1, h8, h9, h10, hlt]
    refine ⟨_, ?_, .inl ⟨rfl, by rw [hd]; rfl⟩⟩
    simp only [T.get_set, Nat.reduceEqDiff, if_false, h4]
  | m + 1, j, t, hj, h0, h1, h4, h8, h9, h10 => by
    refine WX_loop (W_sound ?_)
    have hjl : j < signsL.length := by omega
    have hlt : ((j : Int) < (signsL.length : Int)) := by omega
    have hd : signsL.drop j = signsL[j] :: signsL.drop (j + 1) := List.drop_eq_getElem_cons hjl
    have hx := idx69 1 0 signsL j hjl
    have h16 : signsL.length = 16 := rfl
    have hw := wrap_one (i := j) (by omega)
    have hs := sl9_from l i hi
    obtain ⟨fn1, hf1⟩ := fnOk85
    simp only [strS, intA] at h0 h1 h8 h9 h10 hx ⊢
    simp only [thenW_normal, thenW_exit, thenW_ret, thenW_pan, W_skip, W_region, W_drawn, W_seq, W_cond, W_block, W_loop, W_exit, W_ret, seqQ_normal, seqQ_exit, seqQ_ret, seqQ_pan, blockW_normal, blockW_ret, blockW_pan, blockW_exit, WL_nil, WL_cons, execL_no, execL_val, execL_skip, execL_enter, execL_pan, putL_none, putL_some, retL_ret, retL_pan, condW_t, condW_f, wantedA, exec1, evalO, initT, T.get_set, T.get_leaf, callA, mapO, ofOpt, ofOptS, ofConst, e1_P, e1_G, partsA, neNil3, finW_ret, finW_pan, giveW, resultsA, tupA, ground_not, notO_bool, fb_lss, fb_leq, fb_gtr, fb_geq, fb_add, fb_eqlI, fb_neqI, Nat.reduceLT, Nat.reduceAdd, Nat.reduceEqDiff, if_true, if_false, reduceIte, true_and, and_true, Option.getD_some, List.getElem?_toArray, List.getElem?_cons_succ, List.getElem?_cons_zero, Option.bind_some, List.nil_append, List.append_nil, beq_self_eq_true, Bool.false_eq_true, Bool.true_eq_false, decide_true, decide_false, Bool.not_true, Bool.not_false, Bool.false_beq, Bool.true_beq, Option.toList, List.head?_cons, List.head?_nil, signBody, Tryz.f103, h0, h1, h8, h9, h10, hlt, hx, load9, hf1, hs]
    refine WC.mono (pre_w (l.drop i) signsL[j] S) ?_
    rintro _ rfl
    cases hb : startsW signsL[j] (l.drop i)
    · simp only [thenW_normal, thenW_exit, thenW_ret, thenW_pan, W_skip, W_region, W_drawn, W_seq, W_cond, W_block, W_loop, W_exit, W_ret, seqQ_normal, seqQ_exit, seqQ_ret, seqQ_pan, blockW_normal, blockW_ret, blockW_pan, blockW_exit, WL_nil, WL_cons, execL_no, execL_val, execL_skip, execL_enter, execL_pan, putL_none, putL_some, retL_ret, retL_pan, condW_t, condW_f, wantedA, exec1, evalO, initT, T.get_set, T.get_leaf, callA, mapO, ofOpt, ofOptS, ofConst, e1_P, e1_G, partsA, neNil3, finW_ret, finW_pan, giveW, resultsA, tupA, ground_not, notO_bool, fb_lss, fb_leq, fb_gtr, fb_geq, fb_add, fb_eqlI, fb_neqI, Nat.reduceLT, Nat.reduceAdd, Nat.reduceEqDiff, if_true, if_false, reduceIte, true_and, and_true, Option.getD_some, List.getElem?_toArray, List.getElem?_cons_succ, List.getElem?_cons_zero, Option.bind_some, List.nil_append, List.append_nil, beq_self_eq_true, Bool.false_eq_true, Bool.true_eq_false, decide_true, decide_false, Bool.not_true, Bool.not_false, Bool.false_beq, Bool.true_beq, Option.toList, List.head?_cons, List.head?_nil, signBody, Tryz.f103, h0, h1, h8, h9, h10, hw]
      refine WX.mono (sign_loop l i hi S b hS m (j + 1) _ (by omega) ?_ ?_ ?_ ?_ ?_ ?_) ?_
      · simp only [T.get_set, Nat.reduceEqDiff, if_false, h0]; rfl
      · simp only [T.get_set, Nat.reduceEqDiff, if_false, h1]; rfl
      · simp only [T.get_set, Nat.reduceEqDiff, if_false, h4]
      · simp only [T.get_set, Nat.reduceEqDiff, if_false, h8]
      · simp only [T.get_set, Nat.reduceEqDiff, if_false, h9]; rfl
      · simp only [T.get_set, Nat.reduceEqDiff, if_true]; rfl
      · rintro r ⟨t', h4', ⟨rfl, h⟩ | ⟨s, rfl, h5, h⟩⟩
        · exact ⟨t', h4', .inl ⟨rfl, by rw [hd, List.find?_cons, hb]; exact h⟩⟩
        · exact ⟨t', h4', .inr ⟨s, rfl, h5, by rw [hd, List.find?_cons, hb]; exact h⟩⟩
    · have hbl := b68_3 _ _ _ 4 i ⟨⟨signsL[j]⟩⟩ rfl rfl rfl
      have h1s := st68 hS rfl (show ([.v (.int .i64 4), .v (.int .i64 i), .v (.string ⟨⟨signsL[j]⟩⟩), u64A 0] : List AV).length = 4 from rfl)
      simp only [thenW_normal, thenW_exit, thenW_ret, thenW_pan, W_skip, W_region, W_drawn, W_seq, W_cond, W_block, W_loop, W_exit, W_ret, seqQ_normal, seqQ_exit, seqQ_ret, seqQ_pan, blockW_normal, blockW_ret, blockW_pan, blockW_exit, WL_nil, WL_cons, execL_no, execL_val, execL_skip, execL_enter, execL_pan, putL_none, putL_some, retL_ret, retL_pan, condW_t, condW_f, wantedA, exec1, evalO, initT, T.get_set, T.get_leaf, callA, mapO, ofOpt, ofOptS, ofConst, e1_P, e1_G, partsA, neNil3, finW_ret, finW_pan, giveW, resultsA, tupA, ground_not, notO_bool, fb_lss, fb_leq, fb_gtr, fb_geq, fb_add, fb_eqlI, fb_neqI, Nat.reduceLT, Nat.reduceAdd, Nat.reduceEqDiff, if_true, if_false, reduceIte, true_and, and_true, Option.getD_some, List.getElem?_toArray, List.getElem?_cons_succ, List.getElem?_cons_zero, Option.bind_some, List.nil_append, List.append_nil, beq_self_eq_true, Bool.false_eq_true, Bool.true_eq_false, decide_true, decide_false, Bool.not_true, Bool.not_false, Bool.false_beq, Bool.true_beq, Option.toList, List.head?_cons, List.head?_nil, signBody, Tryz.f103, h0, h1, h4, h8, h9, h10, hbl, h1s]
      refine ⟨_, ?_, .inr ⟨signsL[j], rfl, ?_, by rw [hd, List.find?_cons, hb]⟩⟩
      · simp only [T.get_set, Nat.reduceEqDiff, if_false, h4]
      · simp only [T.get_set, Nat.reduceEqDiff, if_true]; rfl
set_option maxHeartbeats 8000000 in
theorem sign_w (l : List UInt8) (i : Nat) (hi : i ≤ l.length) (S : St) : WC E1 103 [strS l, intA i] S (TokRet S (signT (l.drop i) i)) := by
  refine WC_fn Tryz.f103 (by kernel_rfl) (by kernel_rfl) (by kernel_rfl) (show (_ : Nat) ≤ _ from by show (_ : Nat) ≤ _; simp [Tryz.f103]) ?_
  obtain ⟨fn1, hf1⟩ := fnOk134
  have key := fun t h0 h1 h4 h8 h9 h10 => sign_loop l i hi (S.newBox (tokC zeroT)) S.next (new_get S _) signsL.length 0 t (by omega) h0 h1 h4 h8 h9 h10
  unfold signBody at key
  simp only [Tryz.f103] at key
  have keep : ∀ ys, Keep S ((S.newBox (tokC zeroT)).put S.next ys) := fun ys => keep_put (keep_new S _) (Nat.le_refl _) ys
  have hL := fun S => len69 S 1 0 (signsL.map strS)
  rw [List.length_map] at hL
  simp only [thenW_normal, thenW_exit, thenW_ret, thenW_pan, W_skip, W_region, W_drawn, W_seq, W_cond, W_block, W_loop, W_exit, W_ret, seqQ_normal, seqQ_exit, seqQ_ret, seqQ_pan, blockW_normal, blockW_ret, blockW_pan, blockW_exit, WL_nil, WL_cons, execL_no, execL_val, execL_skip, execL_enter, execL_pan, putL_none, putL_some, retL_ret, retL_pan, condW_t, condW_f, wantedA, exec1, evalO, initT, T.get_set, T.get_leaf, callA, mapO, ofOpt, ofOptS, ofConst, e1_P, e1_G, partsA, neNil3, finW_ret, finW_pan, giveW, resultsA, tupA, ground_not, notO_bool, fb_lss, fb_leq, fb_gtr, fb_geq, fb_add, fb_eqlI, fb_neqI, Nat.reduceLT, Nat.reduceAdd, Nat.reduceEqDiff, if_true, if_false, reduceIte, true_and, and_true, Option.getD_some, List.getElem?_toArray, List.getElem?_cons_succ, List.getElem?_cons_zero, Option.bind_some, List.nil_append, List.append_nil, beq_self_eq_true, Bool.false_eq_true, Bool.true_eq_false, decide_true, decide_false, Bool.not_true, Bool.not_false, Bool.false_beq, Bool.true_beq, Option.toList, List.head?_cons, List.head?_nil, Tryz.f103, al68, hf1]
  refine WC.mono (signs_w _) ?_
  rintro _ rfl
  simp only [thenW_normal, thenW_exit, thenW_ret, thenW_pan, W_skip, W_region, W_drawn, W_seq, W_cond, W_block, W_loop, W_exit, W_ret, seqQ_normal, seqQ_exit, seqQ_ret, seqQ_pan, blockW_normal, blockW_ret, blockW_pan, blockW_exit, WL_nil, WL_cons, execL_no, execL_val, execL_skip, execL_enter, execL_pan, putL_none, putL_some, retL_ret, retL_pan, condW_t, condW_f, wantedA, exec1, evalO, initT, T.get_set, T.get_leaf, callA, mapO, ofOpt, ofOptS, ofConst, e1_P, e1_G, partsA, neNil3, finW_ret, finW_pan, giveW, resultsA, tupA, ground_not, notO_bool, fb_lss, fb_leq, fb_gtr, fb_geq, fb_add, fb_eqlI, fb_neqI, Nat.reduceLT, Nat.reduceAdd, Nat.reduceEqDiff, if_true, if_false, reduceIte, true_and, and_true, Option.getD_some, List.getElem?_toArray, List.getElem?_cons_succ, List.getElem?_cons_zero, Option.bind_some, List.nil_append, List.append_nil, beq_self_eq_true, Bool.false_eq_true, Bool.true_eq_false, decide_true, decide_false, Bool.not_true, Bool.not_false, Bool.false_beq, Bool.true_beq, Option.toList, List.head?_cons, List.head?_nil, Tryz.f103, hL]
  refine WX.mono (key _ ?_ ?_ ?_ ?_ ?_ ?_) ?_
  · simp only [T.get_set, T.get_leaf, Nat.reduceEqDiff, if_true, if_false]
  · simp only [T.get_set, T.get_leaf, Nat.reduceEqDiff, if_true, if_false]
  · simp only [T.get_set, T.get_leaf, Nat.reduceEqDiff, if_true, if_false]
  · simp only [T.get_set, T.get_leaf, Nat.reduceEqDiff, if_true, if_false]
  · simp only [T.get_set, T.get_leaf, Nat.reduceEqDiff, if_true, if_false]; rfl
  · simp only [T.get_set, T.get_leaf, Nat.reduceEqDiff, if_true, if_false]; rfl
  · rintro r ⟨t', h4, ⟨rfl, h⟩ | ⟨s, rfl, h5, h⟩⟩
    · have e : signT (l.drop i) i = (zeroT, 1) := by unfold signT; rw [List.drop_zero] at h; rw [h]
      have q1 := st68_new S (tokC zeroT) (tokC zeroT) rfl rfl
      have q2 := ld68_put (S.newBox (tokC zeroT)) S.next (tokC zeroT) rfl
      simp only [thenW_normal, thenW_exit, thenW_ret, thenW_pan, W_skip, W_region, W_drawn, W_seq, W_cond, W_block, W_loop, W_exit, W_ret, seqQ_normal, seqQ_exit, seqQ_ret, seqQ_pan, blockW_normal, blockW_ret, blockW_pan, blockW_exit, WL_nil, WL_cons, execL_no, execL_val, execL_skip, execL_enter, execL_pan, putL_none, putL_some, retL_ret, retL_pan, condW_t, condW_f, wantedA, exec1, evalO, initT, T.get_set, T.get_leaf, callA, mapO, ofOpt, ofOptS, ofConst, e1_P, e1_G, partsA, neNil3, finW_ret, finW_pan, giveW, resultsA, tupA, ground_not, notO_bool, fb_lss, fb_leq, fb_gtr, fb_geq, fb_add, fb_eqlI, fb_neqI, Nat.reduceLT, Nat.reduceAdd, Nat.reduceEqDiff, if_true, if_false, reduceIte, true_and, and_true, Option.getD_some, List.getElem?_toArray, List.getElem?_cons_succ, List.getElem?_cons_zero, Option.bind_some, List.nil_append, List.append_nil, beq_self_eq_true, Bool.false_eq_true, Bool.true_eq_false, decide_true, decide_false, Bool.not_true, Bool.not_false, Bool.false_beq, Bool.true_beq, Option.toList, List.head?_cons, List.head?_nil, h4, b68_0, q1, q2]
      rw [e]
      exact ⟨_, rfl, keep _⟩
    · have e : signT (l.drop i) i = (⟨4, i, s, 0⟩, 0) := by unfold signT; rw [List.drop_zero] at h; rw [h]
      have q2 := ld68_put (S.newBox (tokC zeroT)) S.next (tokC ⟨4, i, s, 0⟩) rfl
      simp only [thenW_normal, thenW_exit, thenW_ret, thenW_pan, W_skip, W_region, W_drawn, W_seq, W_cond, W_block, W_loop, W_exit, W_ret, seqQ_normal, seqQ_exit, seqQ_ret, seqQ_pan, blockW_normal, blockW_ret, blockW_pan, blockW_exit, WL_nil, WL_cons, execL_no, execL_val, execL_skip, execL_enter, execL_pan, putL_none, putL_some, retL_ret, retL_pan, condW_t, condW_f, wantedA, exec1, evalO, initT, T.get_set, T.get_leaf, callA, mapO, ofOpt, ofOptS, ofConst, e1_P, e1_G, partsA, neNil3, finW_ret, finW_pan, giveW, resultsA, tupA, ground_not, notO_bool, fb_lss, fb_leq, fb_gtr, fb_geq, fb_add, fb_eqlI, fb_neqI, Nat.reduceLT, Nat.reduceAdd, Nat.reduceEqDiff, if_true, if_false, reduceIte, true_and, and_true, Option.getD_some, List.getElem?_toArray, List.getElem?_cons_succ, List.getElem?_cons_zero, Option.bind_some, List.nil_append, List.append_nil, beq_self_eq_true, Bool.false_eq_true, Bool.true_eq_false, decide_true, decide_false, Bool.not_true, Bool.not_false, Bool.false_beq, Bool.true_beq, Option.toList, List.head?_cons, List.head?_nil, h4, h5, q2]
      rw [e]
      exact ⟨_, rfl, keep _⟩
set_option maxHeartbeats 8000000 in
theorem next_w (l : List UInt8) (hl : l.length ≤ 100000) (i : Nat) (hi : i < l.length) (S : St) (p : Tk × Nat) (hp : nextT (l.drop i) i = some p) : WC E1 66 [strS l, intA i] S (TokRet S p) := by
  refine WC_fn Tryz.f66 (by kernel_rfl) (by kernel_rfl) (by kernel_rfl) (show (_ : Nat) ≤ _ from by show (_ : Nat) ≤ _; simp [Tryz.f66]) ?_
  obtain ⟨fn1, hf1⟩ := fnOk99
  obtain ⟨fn2, hf2⟩ := fnOk100
  obtain ⟨fn3, hf3⟩ := fnOk101
  obtain ⟨fn4, hf4⟩ := fnOk102
  obtain ⟨fn5, hf5⟩ := fnOk103
  have hx := idx9 l i hi
  rw [List.drop_eq_getElem_cons hi] at hp
  simp only [nextT] at hp
  rw [← List.drop_eq_getElem_cons hi] at hp
  simp only [strS, intA]
  simp only [thenW_normal, thenW_exit, thenW_ret, thenW_pan, W_skip, W_region, W_drawn, W_seq, W_cond, W_block, W_loop, W_exit, W_ret, seqQ_normal, seqQ_exit, seqQ_ret, seqQ_pan, blockW_normal, blockW_ret, blockW_pan, blockW_exit, WL_nil, WL_cons, execL_no, execL_val, execL_skip, execL_enter, execL_pan, putL_none, putL_some, retL_ret, retL_pan, condW_t, condW_f, wantedA, exec1, evalO, initT, T.get_set, T.get_leaf, callA, mapO, ofOpt, ofOptS, ofConst, e1_P, e1_G, partsA, neNil3, finW_ret, finW_pan, giveW, resultsA, tupA, ground_not, notO_bool, fb_lss, fb_leq, fb_gtr, fb_geq, fb_add, fb_eqlI, fb_neqI, Nat.reduceLT, Nat.reduceAdd, Nat.reduceEqDiff, if_true, if_false, reduceIte, true_and, and_true, Option.getD_some, List.getElem?_toArray, List.getElem?_cons_succ, List.getElem?_cons_zero, Option.bind_some, List.nil_append, List.append_nil, beq_self_eq_true, Bool.false_eq_true, Bool.true_eq_false, decide_true, decide_false, Bool.not_true, Bool.not_false, Bool.false_beq, Bool.true_beq, Option.toList, List.head?_cons, List.head?_nil, Tryz.f66, al68, hf1, hf2, hf3, hf4, hf5, hx]
  refine WC.mono (letter_w l[i] _) ?_
  rintro _ rfl
  have fin : ∀ S2 : St, Keep (S.newBox (tokC zeroT)) S2 → ∀ q : Tk, oStore Tryz.prog S2 68 (.ptr S.next 0) (tokA q) = some (S2.put S.next (tokC q)) ∧ oLoad Tryz.prog (S2.put S.next (tokC q)) 68 (.ptr S.next 0) = some (tokA q) ∧ Keep S (S2.put S.next (tokC q)) := fun S2 hk q =>
    ⟨st68 (by rw [hk.2 S.next (Nat.lt_succ_self _)]; exact new_get S _) rfl rfl, ld68_put _ _ _ rfl, keep_put ((keep_new S _).trans hk) (Nat.le_refl _) _⟩
  cases hb : isLetter l[i]
  · rw [hb] at hp
    simp only [Bool.false_eq_true, if_false] at hp
    simp only [thenW_normal, thenW_exit, thenW_ret, thenW_pan, W_skip, W_region, W_drawn, W_seq, W_cond, W_block, W_loop, W_exit, W_ret, seqQ_normal, seqQ_exit, seqQ_ret, seqQ_pan, blockW_normal, blockW_ret, blockW_pan, blockW_exit, WL_nil, WL_cons, execL_no, execL_val, execL_skip, execL_enter, execL_pan, putL_none, putL_some, retL_ret, retL_pan, condW_t, condW_f, wantedA, exec1, evalO, initT, T.get_set, T.get_leaf, callA, mapO, ofOpt, ofOptS, ofConst, e1_P, e1_G, partsA, neNil3, finW_ret, finW_pan, giveW, resultsA, tupA, ground_not, notO_bool, fb_lss, fb_leq, fb_gtr, fb_geq, fb_add, fb_eqlI, fb_neqI, Nat.reduceLT, Nat.reduceAdd, Nat.reduceEqDiff, if_true, if_false, reduceIte, true_and, and_true, Option.getD_some, List.getElem?_toArray, List.getElem?_cons_succ, List.getElem?_cons_zero, Option.bind_some, List.nil_append, List.append_nil, beq_self_eq_true, Bool.false_eq_true, Bool.true_eq_false, decide_true, decide_false, Bool.not_true, Bool.not_false, Bool.false_beq, Bool.true_beq, Option.toList, List.head?_cons, List.head?_nil, Tryz.f66, hf1, hf2, hf3, hf4, hf5]
    refine WC.mono (digit_w l[i] _) ?_
    rintro _ rfl
    cases hb2 : isDigit l[i]
    · rw [hb2] at hp
      simp only [Bool.false_eq_true, if_false] at hp
      injection hp with hp; subst hp
      simp only [thenW_normal, thenW_exit, thenW_ret, thenW_pan, W_skip, W_region, W_drawn, W_seq, W_cond, W_block, W_loop, W_exit, W_ret, seqQ_normal, seqQ_exit, seqQ_ret, seqQ_pan, blockW_normal, blockW_ret, blockW_pan, blockW_exit, WL_nil, WL_cons, execL_no, execL_val, execL_skip, execL_enter, execL_pan, putL_none, putL_some, retL_ret, retL_pan, condW_t, condW_f, wantedA, exec1, evalO, initT, T.get_set, T.get_leaf, callA, mapO, ofOpt, ofOptS, ofConst, e1_P, e1_G, partsA, neNil3, finW_ret, finW_pan, giveW, resultsA, tupA, ground_not, notO_bool, fb_lss, fb_leq, fb_gtr, fb_geq, fb_add, fb_eqlI, fb_neqI, Nat.reduceLT, Nat.reduceAdd, Nat.reduceEqDiff, if_true, if_false, reduceIte, true_and, and_true, Option.getD_some, List.getElem?_toArray, List.getElem?_cons_succ, List.getElem?_cons_zero, Option.bind_some, List.nil_append, List.append_nil, beq_self_eq_true, Bool.false_eq_true, Bool.true_eq_false, decide_true, decide_false, Bool.not_true, Bool.not_false, Bool.false_beq, Bool.true_beq, Option.toList, List.head?_cons, List.head?_nil, Tryz.f66, hf1, hf2, hf3, hf4, hf5]
      refine WC.mono (sign_w l i (by omega) _) ?_
      rintro _ ⟨S2, rfl, hk⟩
      obtain ⟨q1, q2, q3⟩ := fin S2 hk (signT (l.drop i) i).1
      simp only [thenW_normal, thenW_exit, thenW_ret, thenW_pan, W_skip, W_region, W_drawn, W_seq, W_cond, W_block, W_loop, W_exit, W_ret, seqQ_normal, seqQ_exit, seqQ_ret, seqQ_pan, blockW_normal, blockW_ret, blockW_pan, blockW_exit, WL_nil, WL_cons, execL_no, execL_val, execL_skip, execL_enter, execL_pan, putL_none, putL_some, retL_ret, retL_pan, condW_t, condW_f, wantedA, exec1, evalO, initT, T.get_set, T.get_leaf, callA, mapO, ofOpt, ofOptS, ofConst, e1_P, e1_G, partsA, neNil3, finW_ret, finW_pan, giveW, resultsA, tupA, ground_not, notO_bool, fb_lss, fb_leq, fb_gtr, fb_geq, fb_add, fb_eqlI, fb_neqI, Nat.reduceLT, Nat.reduceAdd, Nat.reduceEqDiff, if_true, if_false, reduceIte, true_and, and_true, Option.getD_some, List.getElem?_toArray, List.getElem?_cons_succ, List.getElem?_cons_zero, Option.bind_some, List.nil_append, List.append_nil, beq_self_eq_true, Bool.false_eq_true, Bool.true_eq_false, decide_true, decide_false, Bool.not_true, Bool.not_false, Bool.false_beq, Bool.true_beq, Option.toList, List.head?_cons, List.head?_nil, Tryz.f66, oExtract, List.getElem?_cons_succ, List.getElem?_cons_zero, q1, q2]
      exact ⟨_, rfl, q3⟩
    · rw [hb2] at hp
      simp only [if_true] at hp
      simp only [thenW_normal, thenW_exit, thenW_ret, thenW_pan, W_skip, W_region, W_drawn, W_seq, W_cond, W_block, W_loop, W_exit, W_ret, seqQ_normal, seqQ_exit, seqQ_ret, seqQ_pan, blockW_normal, blockW_ret, blockW_pan, blockW_exit, WL_nil, WL_cons, execL_no, execL_val, execL_skip, execL_enter, execL_pan, putL_none, putL_some, retL_ret, retL_pan, condW_t, condW_f, wantedA, exec1, evalO, initT, T.get_set, T.get_leaf, callA, mapO, ofOpt, ofOptS, ofConst, e1_P, e1_G, partsA, neNil3, finW_ret, finW_pan, giveW, resultsA, tupA, ground_not, notO_bool, fb_lss, fb_leq, fb_gtr, fb_geq, fb_add, fb_eqlI, fb_neqI, Nat.reduceLT, Nat.reduceAdd, Nat.reduceEqDiff, if_true, if_false, reduceIte, true_and, and_true, Option.getD_some, List.getElem?_toArray, List.getElem?_cons_succ, List.getElem?_cons_zero, Option.bind_some, List.nil_append, List.append_nil, beq_self_eq_true, Bool.false_eq_true, Bool.true_eq_false, decide_true, decide_false, Bool.not_true, Bool.not_false, Bool.false_beq, Bool.true_beq, Option.toList, List.head?_cons, List.head?_nil, Tryz.f66, hf1, hf2, hf3, hf4, hf5]
      refine WC.mono (number_w l hl i hi hb2 _ p hp) ?_
      rintro _ ⟨S2, rfl, hk⟩
      obtain ⟨q1, q2, q3⟩ := fin S2 hk p.1
      simp only [thenW_normal, thenW_exit, thenW_ret, thenW_pan, W_skip, W_region, W_drawn, W_seq, W_cond, W_block, W_loop, W_exit, W_ret, seqQ_normal, seqQ_exit, seqQ_ret, seqQ_pan, blockW_normal, blockW_ret, blockW_pan, blockW_exit, WL_nil, WL_cons, execL_no, execL_val, execL_skip, execL_enter, execL_pan, putL_none, putL_some, retL_ret, retL_pan, condW_t, condW_f, wantedA, exec1, evalO, initT, T.get_set, T.get_leaf, callA, mapO, ofOpt, ofOptS, ofConst, e1_P, e1_G, partsA, neNil3, finW_ret, finW_pan, giveW, resultsA, tupA, ground_not, notO_bool, fb_lss, fb_leq, fb_gtr, fb_geq, fb_add, fb_eqlI, fb_neqI, Nat.reduceLT, Nat.reduceAdd, Nat.reduceEqDiff, if_true, if_false, reduceIte, true_and, and_true, Option.getD_some, List.getElem?_toArray, List.getElem?_cons_succ, List.getElem?_cons_zero, Option.bind_some, List.nil_append, List.append_nil, beq_self_eq_true, Bool.false_eq_true, Bool.true_eq_false, decide_true, decide_false, Bool.not_true, Bool.not_false, Bool.false_beq, Bool.true_beq, Option.toList, List.head?_cons, List.head?_nil, Tryz.f66, oExtract, List.getElem?_cons_succ, List.getElem?_cons_zero, q1, q2]
      exact ⟨_, rfl, q3⟩
  · rw [hb] at hp
    simp only [if_true] at hp
    injection hp with hp; subst hp
    simp only [thenW_normal, thenW_exit, thenW_ret, thenW_pan, W_skip, W_region, W_drawn, W_seq, W_cond, W_block, W_loop, W_exit, W_ret, seqQ_normal, seqQ_exit, seqQ_ret, seqQ_pan, blockW_normal, blockW_ret, blockW_pan, blockW_exit, WL_nil, WL_cons, execL_no, execL_val, execL_skip, execL_enter, execL_pan, putL_none, putL_some, retL_ret, retL_pan, condW_t, condW_f, wantedA, exec1, evalO, initT, T.get_set, T.get_leaf, callA, mapO, ofOpt, ofOptS, ofConst, e1_P, e1_G, partsA, neNil3, finW_ret, finW_pan, giveW, resultsA, tupA, ground_not, notO_bool, fb_lss, fb_leq, fb_gtr, fb_geq, fb_add, fb_eqlI, fb_neqI, Nat.reduceLT, Nat.reduceAdd, Nat.reduceEqDiff, if_true, if_false, reduceIte, true_and, and_true, Option.getD_some, List.getElem?_toArray, List.getElem?_cons_succ, List.getElem?_cons_zero, Option.bind_some, List.nil_append, List.append_nil, beq_self_eq_true, Bool.false_eq_true, Bool.true_eq_false, decide_true, decide_false, Bool.not_true, Bool.not_false, Bool.false_beq, Bool.true_beq, Option.toList, List.head?_cons, List.head?_nil, Tryz.f66, hf1, hf2, hf3, hf4, hf5]
    refine WC.mono (word_w l hl i (by omega) _) ?_
    rintro _ ⟨S2, rfl, hk⟩
    obtain ⟨q1, q2, q3⟩ := fin S2 hk (wordT (l.drop i) i).1
    simp only [thenW_normal, thenW_exit, thenW_ret, thenW_pan, W_skip, W_region, W_drawn, W_seq, W_cond, W_block, W_loop, W_exit, W_ret, seqQ_normal, seqQ_exit, seqQ_ret, seqQ_pan, blockW_normal, blockW_ret, blockW_pan, blockW_exit, WL_nil, WL_cons, execL_no, execL_val, execL_skip, execL_enter, execL_pan, putL_none, putL_some, retL_ret, retL_pan, condW_t, condW_f, wantedA, exec1, evalO, initT, T.get_set, T.get_leaf, callA, mapO, ofOpt, ofOptS, ofConst, e1_P, e1_G, partsA, neNil3, finW_ret, finW_pan, giveW, resultsA, tupA, ground_not, notO_bool, fb_lss, fb_leq, fb_gtr, fb_geq, fb_add, fb_eqlI, fb_neqI, Nat.reduceLT, Nat.reduceAdd, Nat.reduceEqDiff, if_true, if_false, reduceIte, true_and, and_true, Option.getD_some, List.getElem?_toArray, List.getElem?_cons_succ, List.getElem?_cons_zero, Option.bind_some, List.nil_append, List.append_nil, beq_self_eq_true, Bool.false_eq_true, Bool.true_eq_false, decide_true, decide_false, Bool.not_true, Bool.not_false, Bool.false_beq, Bool.true_beq, Option.toList, List.head?_cons, List.head?_nil, Tryz.f66, oExtract, List.getElem?_cons_succ, List.getElem?_cons_zero, q1, q2]
    exact ⟨_, rfl, q3⟩
end Go.Ax
