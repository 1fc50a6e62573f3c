/-
  How many bytes of a text belong: behind, reasoned over.
-/
import Derived.Test.YtgnohckncmhodaaGreatDoorClG9
set_option linter.unusedVariables false
set_option linter.unusedSimpArgs false
set_option maxHeartbeats 16000000
noncomputable section
namespace Go.Ax
open Go.RowKit Go.Proofs
set_option linter.unusedVariables false
set_option linter.unusedSimpArgs false
set_option maxRecDepth 100000
def strS (l : List UInt8) : AV := .v (.string ⟨⟨l⟩⟩)
def intA (n : Nat) : AV := .v (.int .i64 (n : Int))
theorem wrap_nat {n : Nat} (h : n ≤ 1000000000) : IntKind.i64.wrap (n : Int) = (n : Int) := by
  rw [← wrap64R_eq]
  have : in64 (n : Int) = true := Nat.ble_eq_true_of_le (by omega)
  unfold wrap64R
  rw [this]
theorem wrap_add {i j : Nat} (h : i + j ≤ 1000000000) : IntKind.i64.wrap ((i : Int) + (j : Int)) = ((i + j : Nat) : Int) := by
  rw [← wrap_nat h]; push_cast; rfl
theorem wrap_one {i : Nat} (h : i + 1 ≤ 1000000000) : IntKind.i64.wrap ((i : Int) + 1) = ((i + 1 : Nat) : Int) := wrap_add (j := 1) h
theorem len9 (S : St) (l : List UInt8) : oLen Tryz.prog S 9 (.v (.string ⟨⟨l⟩⟩)) = some l.length := by
  have h : Tryz.prog.underlying 9 = some .string := rfl
  simp only [oLen, h]; rfl
theorem idx9 (l : List UInt8) (i : Nat) (h : i < l.length) : fastIndex Tryz.prog 9 (.v (.string ⟨⟨l⟩⟩)) (.v (.int .i64 (i : Int))) = some (byteA l[i]) := by
  have hu : Tryz.prog.underlying 9 = some .string := rfl
  have h0 : (0 : Int) ≤ (i : Int) := by omega
  simp only [fastIndex, hu, if_pos h0, Int.toNat_natCast, List.getElem?_eq_getElem h]; rfl
def groundX (P : Program) (G : Gl) (f : T AV) (S : St) (o : Oper) : OR := ground P G f S o
def notO (r : OR) (S : St) (x : Option AV) : OR := match x with
  | some (.v (.bool b)) => .val (.v (.bool (!b))) S
  | _ => r
theorem ground_not (f : T AV) (S : St) (dst : Option Tmp) (k : Tmp) (ty : TypeId) (pos : String) (af : Array Edge) (gd : Option (Nat × Bool)) :
    ground Tryz.prog (fun _ => none) f S { dst := dst, op := .unOp .not 4 (.tmp k), type := ty, pos := pos, after := af, guard := gd } = notO (groundX Tryz.prog (fun _ => none) f S { dst := dst, op := .unOp .not 4 (.tmp k), type := ty, pos := pos, after := af, guard := gd }) S (f.get k) := by
  unfold notO
  split
  · rename_i b h
    have hg : groundO (fun _ => none) f (.tmp k) = some (.bool b) := by unfold groundO; simp only [evalO, h]; rfl
    unfold ground
    simp only [Op.operands, List.all_cons, List.all_nil, hg, Option.isSome_some, Bool.and_self, if_true]
    have e : execOp (fun x => (groundO (fun _ => none) f x).getD undef) { dst := dst, op := .unOp .not 4 (.tmp k), type := ty, pos := pos, after := af, guard := gd } = execOp (fun _ => .bool b) { dst := dst, op := .unOp .not 4 (.tmp k), type := ty, pos := pos, after := af, guard := gd } := by
      simp only [execOp, hg, Option.getD_some]
    rw [e]
    cases b <;> rfl
  · rfl
theorem notO_bool (r : OR) (S : St) (b : Bool) : notO r S (some (.v (.bool b))) = .val (.v (.bool (!b))) S := rfl
/-- How many of the first belong. -/
def cnt (p : UInt8 → Bool) : List UInt8 → Nat
  | [] => 0
  | b :: r => if p b then cnt p r + 1 else 0
theorem cnt_le (p : UInt8 → Bool) : ∀ l, cnt p l ≤ l.length
  | [] => Nat.le_refl _
  | b :: r => by
    unfold cnt
    split
    · have := cnt_le p r; simp; omega
    · simp
def behindBody : Code := match Tryz.f168.body with
  | some (.seq _ (.seq (.block _ (.loop c)) _)) => c
  | _ => .skip
/-- A test of bytes. -/
structure Test (k : FuncId) (p : UInt8 → Bool) : Prop where
  run : ∀ b S, WC E1 k [byteA b] S (fun r => r = .ret (.v (.bool (p b))) S)
  fn : (E1.F k).isSome = true
theorem behind_loop {k : FuncId} {p : UInt8 → Bool} (hp : Test k p) (l : List UInt8) (hl : l.length ≤ 100000) (S : St) : ∀ (m i : Nat) (t : T AV), i + m = l.length → t.get 0 = some (strS l) → t.get 1 = some (intA i) → t.get 2 = some (.fn (.func k) [] []) →
    WX E1 21 (.loop behindBody) ⟨t, []⟩ S (fun r => ∃ t', r = .out (.exit 0) ⟨t', []⟩ S ∧ t'.get 1 = some (intA (i + cnt p (l.drop i))))
  | 0, i, t, hi, h0, h1, h2 => by
    refine WX_loop (W_sound ?_)
    have hlt : ¬ ((i : Int) < (l.length : Int)) := by omega
    have hd : l.drop i = [] := List.drop_eq_nil_of_le (by omega)
    simp only [strS, intA] at h0 h1 ⊢
    simp only [thenW_normal, thenW_exit, thenW_ret, thenW_pan, W_skip, W_region, W_drawn, W_seq, W_cond, W_block, W_loop, W_exit, W_ret, seqQ_normal, seqQ_exit, seqQ_ret, seqQ_pan, blockW_normal, blockW_ret, blockW_pan, blockW_exit, WL_nil, WL_cons, execL_no, execL_val, execL_skip, execL_enter, execL_pan, putL_none, putL_some, retL_ret, retL_pan, condW_t, condW_f, wantedA, exec1, evalO, initT, T.get_set, T.get_leaf, callA, mapO, ofOpt, ofOptS, ofConst, e1_P, e1_G, partsA, neNil3, finW_ret, finW_pan, giveW, resultsA, tupA, ground_not, notO_bool, fb_lss, fb_leq, fb_gtr, fb_geq, fb_add, fb_eqlI, fb_neqI, Nat.reduceLT, Nat.reduceAdd, Nat.reduceEqDiff, if_true, if_false, reduceIte, true_and, and_true, Option.getD_some, List.getElem?_toArray, List.getElem?_cons_succ, List.getElem?_cons_zero, Option.bind_some, List.nil_append, List.append_nil, beq_self_eq_true, Bool.false_eq_true, Bool.true_eq_false, decide_true, decide_false, Bool.not_true, Bool.not_false, Bool.false_beq, Bool.true_beq, Option.toList, List.head?_cons, List.head?_nil, behindBody, Tryz.f168, h0, h1, h2, len9, hlt]
    exact ⟨_, rfl, by simp only [T.get_set, Nat.reduceEqDiff, if_false, h1, hd, cnt, Nat.add_zero]⟩
  | m + 1, i, t, hi, h0, h1, h2 => by
    refine WX_loop (W_sound ?_)
    have hil : i < l.length := by omega
    have hlt : ((i : Int) < (l.length : Int)) := by omega
    have hd : l.drop i = l[i] :: l.drop (i + 1) := List.drop_eq_getElem_cons hil
    obtain ⟨fn, hfn⟩ := Option.isSome_iff_exists.1 hp.fn
    have hx := idx9 l i hil
    have hw := wrap_one (i := i) (by omega)
    simp only [strS, intA] at h0 h1 ⊢
    simp only [thenW_normal, thenW_exit, thenW_ret, thenW_pan, W_skip, W_region, W_drawn, W_seq, W_cond, W_block, W_loop, W_exit, W_ret, seqQ_normal, seqQ_exit, seqQ_ret, seqQ_pan, blockW_normal, blockW_ret, blockW_pan, blockW_exit, WL_nil, WL_cons, execL_no, execL_val, execL_skip, execL_enter, execL_pan, putL_none, putL_some, retL_ret, retL_pan, condW_t, condW_f, wantedA, exec1, evalO, initT, T.get_set, T.get_leaf, callA, mapO, ofOpt, ofOptS, ofConst, e1_P, e1_G, partsA, neNil3, finW_ret, finW_pan, giveW, resultsA, tupA, ground_not, notO_bool, fb_lss, fb_leq, fb_gtr, fb_geq, fb_add, fb_eqlI, fb_neqI, Nat.reduceLT, Nat.reduceAdd, Nat.reduceEqDiff, if_true, if_false, reduceIte, true_and, and_true, Option.getD_some, List.getElem?_toArray, List.getElem?_cons_succ, List.getElem?_cons_zero, Option.bind_some, List.nil_append, List.append_nil, beq_self_eq_true, Bool.false_eq_true, Bool.true_eq_false, decide_true, decide_false, Bool.not_true, Bool.not_false, Bool.false_beq, Bool.true_beq, Option.toList, List.head?_cons, List.head?_nil, behindBody, Tryz.f168, h0, h1, h2, len9, hlt, hx, hfn]
    refine WC.mono (hp.run l[i] S) ?_
    rintro _ rfl
    cases hb : p l[i]
    · simp only [thenW_normal, thenW_exit, thenW_ret, thenW_pan, W_skip, W_region, W_drawn, W_seq, W_cond, W_block, W_loop, W_exit, W_ret, seqQ_normal, seqQ_exit, seqQ_ret, seqQ_pan, blockW_normal, blockW_ret, blockW_pan, blockW_exit, WL_nil, WL_cons, execL_no, execL_val, execL_skip, execL_enter, execL_pan, putL_none, putL_some, retL_ret, retL_pan, condW_t, condW_f, wantedA, exec1, evalO, initT, T.get_set, T.get_leaf, callA, mapO, ofOpt, ofOptS, ofConst, e1_P, e1_G, partsA, neNil3, finW_ret, finW_pan, giveW, resultsA, tupA, ground_not, notO_bool, fb_lss, fb_leq, fb_gtr, fb_geq, fb_add, fb_eqlI, fb_neqI, Nat.reduceLT, Nat.reduceAdd, Nat.reduceEqDiff, if_true, if_false, reduceIte, true_and, and_true, Option.getD_some, List.getElem?_toArray, List.getElem?_cons_succ, List.getElem?_cons_zero, Option.bind_some, List.nil_append, List.append_nil, beq_self_eq_true, Bool.false_eq_true, Bool.true_eq_false, decide_true, decide_false, Bool.not_true, Bool.not_false, Bool.false_beq, Bool.true_beq, Option.toList, List.head?_cons, List.head?_nil, behindBody, Tryz.f168, h0, h1, h2, len9, hlt, hx, hfn]
      refine ⟨_, rfl, ?_⟩
      have e : cnt p (l.drop i) = 0 := by rw [hd]; unfold cnt; rw [hb]; rfl
      simp only [T.get_set, Nat.reduceEqDiff, if_false, h1, e, Nat.add_zero]
    · simp only [thenW_normal, thenW_exit, thenW_ret, thenW_pan, W_skip, W_region, W_drawn, W_seq, W_cond, W_block, W_loop, W_exit, W_ret, seqQ_normal, seqQ_exit, seqQ_ret, seqQ_pan, blockW_normal, blockW_ret, blockW_pan, blockW_exit, WL_nil, WL_cons, execL_no, execL_val, execL_skip, execL_enter, execL_pan, putL_none, putL_some, retL_ret, retL_pan, condW_t, condW_f, wantedA, exec1, evalO, initT, T.get_set, T.get_leaf, callA, mapO, ofOpt, ofOptS, ofConst, e1_P, e1_G, partsA, neNil3, finW_ret, finW_pan, giveW, resultsA, tupA, ground_not, notO_bool, fb_lss, fb_leq, fb_gtr, fb_geq, fb_add, fb_eqlI, fb_neqI, Nat.reduceLT, Nat.reduceAdd, Nat.reduceEqDiff, if_true, if_false, reduceIte, true_and, and_true, Option.getD_some, List.getElem?_toArray, List.getElem?_cons_succ, List.getElem?_cons_zero, Option.bind_some, List.nil_append, List.append_nil, beq_self_eq_true, Bool.false_eq_true, Bool.true_eq_false, decide_true, decide_false, Bool.not_true, Bool.not_false, Bool.false_beq, Bool.true_beq, Option.toList, List.head?_cons, List.head?_nil, behindBody, Tryz.f168, h0, h1, h2, len9, hlt, hx, hfn, hw]
      have e : cnt p (l.drop i) = cnt p (l.drop (i + 1)) + 1 := by rw [hd, cnt, hb]; rfl
      refine WX.mono (behind_loop hp l hl S m (i + 1) _ (by omega) ?_ ?_ ?_) ?_
      · simp only [T.get_set, Nat.reduceEqDiff, if_false, h0]; rfl
      · simp only [T.get_set, Nat.reduceEqDiff, if_true]; rfl
      · simp only [T.get_set, Nat.reduceEqDiff, if_false, h2]
      · rintro r ⟨t', rfl, h⟩
        refine ⟨t', rfl, ?_⟩
        rw [h, e]
        show some (intA _) = some (intA _)
        congr 2; omega
theorem behind_w {k : FuncId} {p : UInt8 → Bool} (hp : Test k p) (l : List UInt8) (hl : l.length ≤ 100000) (i : Nat) (hi : i ≤ l.length) (S : St) : WC E1 168 [strS l, intA i, .fn (.func k) [] []] S (fun r => r = .ret (intA (i + cnt p (l.drop i))) S) := by
  refine WC_fn Tryz.f168 (by kernel_rfl) (by kernel_rfl) (by kernel_rfl) (show (_ : Nat) ≤ _ from by show (_ : Nat) ≤ _; simp [Tryz.f168]) ?_
  have key := fun t h0 h1 h2 => behind_loop hp l hl S (l.length - i) i t (by omega) h0 h1 h2
  unfold behindBody at key
  simp only [Tryz.f168] at key
  simp only [thenW_normal, thenW_exit, thenW_ret, thenW_pan, W_skip, W_region, W_drawn, W_seq, W_cond, W_block, W_loop, W_exit, W_ret, seqQ_normal, seqQ_exit, seqQ_ret, seqQ_pan, blockW_normal, blockW_ret, blockW_pan, blockW_exit, WL_nil, WL_cons, execL_no, execL_val, execL_skip, execL_enter, execL_pan, putL_none, putL_some, retL_ret, retL_pan, condW_t, condW_f, wantedA, exec1, evalO, initT, T.get_set, T.get_leaf, callA, mapO, ofOpt, ofOptS, ofConst, e1_P, e1_G, partsA, neNil3, finW_ret, finW_pan, giveW, resultsA, tupA, ground_not, notO_bool, fb_lss, fb_leq, fb_gtr, fb_geq, fb_add, fb_eqlI, fb_neqI, Nat.reduceLT, Nat.reduceAdd, Nat.reduceEqDiff, if_true, if_false, reduceIte, true_and, and_true, Option.getD_some, List.getElem?_toArray, List.getElem?_cons_succ, List.getElem?_cons_zero, Option.bind_some, List.nil_append, List.append_nil, beq_self_eq_true, Bool.false_eq_true, Bool.true_eq_false, decide_true, decide_false, Bool.not_true, Bool.not_false, Bool.false_beq, Bool.true_beq, Option.toList, List.head?_cons, List.head?_nil, Tryz.f168]
  refine WX.mono (key _ ?_ ?_ ?_) ?_
  · simp only [T.get_set, T.get_leaf, Nat.reduceEqDiff, if_true, if_false]
  · simp only [T.get_set, T.get_leaf, Nat.reduceEqDiff, if_true, if_false]
  · simp only [T.get_set, T.get_leaf, Nat.reduceEqDiff, if_true, if_false]
  · rintro r ⟨t', rfl, h⟩
    simp only [thenW_normal, thenW_exit, thenW_ret, thenW_pan, W_skip, W_region, W_drawn, W_seq, W_cond, W_block, W_loop, W_exit, W_ret, seqQ_normal, seqQ_exit, seqQ_ret, seqQ_pan, blockW_normal, blockW_ret, blockW_pan, blockW_exit, WL_nil, WL_cons, execL_no, execL_val, execL_skip, execL_enter, execL_pan, putL_none, putL_some, retL_ret, retL_pan, condW_t, condW_f, wantedA, exec1, evalO, initT, T.get_set, T.get_leaf, callA, mapO, ofOpt, ofOptS, ofConst, e1_P, e1_G, partsA, neNil3, finW_ret, finW_pan, giveW, resultsA, tupA, ground_not, notO_bool, fb_lss, fb_leq, fb_gtr, fb_geq, fb_add, fb_eqlI, fb_neqI, Nat.reduceLT, Nat.reduceAdd, Nat.reduceEqDiff, if_true, if_false, reduceIte, true_and, and_true, Option.getD_some, List.getElem?_toArray, List.getElem?_cons_succ, List.getElem?_cons_zero, Option.bind_some, List.nil_append, List.append_nil, beq_self_eq_true, Bool.false_eq_true, Bool.true_eq_false, decide_true, decide_false, Bool.not_true, Bool.not_false, Bool.false_beq, Bool.true_beq, Option.toList, List.head?_cons, List.head?_nil, h]
theorem blankT : Test 169 isBlank := ⟨blank_w, by kernel_rfl⟩
theorem notEndT : Test 171 notEnd := ⟨notEnd_w, by kernel_rfl⟩
theorem digitT : Test 174 isDigit := ⟨digit_w, by kernel_rfl⟩
theorem wordBT : Test 221 isWordB := ⟨wordB_w, by kernel_rfl⟩
end Go.Ax
noncomputable section
namespace Go.Ax
open Go.RowKit Go.Proofs
set_option linter.unusedVariables false
set_option linter.unusedSimpArgs false
set_option maxRecDepth 100000
theorem sl9_from (l : List UInt8) (i : Nat) (h : i ≤ l.length) : fastSlice Tryz.prog 9 (.v (.string ⟨⟨l⟩⟩)) (some (.v (.int .i64 (i : Int)))) none = some (.v (.string ⟨⟨l.drop i⟩⟩)) := by
  have hu : Tryz.prog.underlying 9 = some .string := rfl
  have h0 : (0 : Int) ≤ (i : Int) := by omega
  have hs : (⟨⟨l⟩⟩ : ByteArray).size = l.length := rfl
  simp only [fastSlice, hu, boundA, if_pos h0, Int.toNat_natCast, hs]
  rw [Nat.ble_eq_true_of_le h, Nat.ble_eq_true_of_le (Nat.le_refl _)]
  show some (AV.v (.string ⟨⟨(l.drop i).take (l.length - i)⟩⟩)) = _
  rw [List.take_of_length_le (by simp)]
theorem sl9_to (l : List UInt8) (j : Nat) (h : j ≤ l.length) : fastSlice Tryz.prog 9 (.v (.string ⟨⟨l⟩⟩)) none (some (.v (.int .i64 (j : Int)))) = some (.v (.string ⟨⟨l.take j⟩⟩)) := by
  have hu : Tryz.prog.underlying 9 = some .string := rfl
  have h0 : (0 : Int) ≤ (j : Int) := by omega
  have hs : (⟨⟨l⟩⟩ : ByteArray).size = l.length := rfl
  simp only [fastSlice, hu, boundA, if_pos h0, Int.toNat_natCast, hs]
  rw [Nat.ble_eq_true_of_le (Nat.zero_le _), Nat.ble_eq_true_of_le h]
  rfl
theorem sl9_both (l : List UInt8) (i j : Nat) (hi : i ≤ j) (h : j ≤ l.length) : fastSlice Tryz.prog 9 (.v (.string ⟨⟨l⟩⟩)) (some (.v (.int .i64 (i : Int)))) (some (.v (.int .i64 (j : Int)))) = some (.v (.string ⟨⟨(l.drop i).take (j - i)⟩⟩)) := by
  have hu : Tryz.prog.underlying 9 = some .string := rfl
  have h0 : (0 : Int) ≤ (i : Int) := by omega
  have h1 : (0 : Int) ≤ (j : Int) := by omega
  have hs : (⟨⟨l⟩⟩ : ByteArray).size = l.length := rfl
  simp only [fastSlice, hu, boundA, if_pos h0, if_pos h1, Int.toNat_natCast, hs]
  rw [Nat.ble_eq_true_of_le hi, Nat.ble_eq_true_of_le h]
  rfl
theorem fb_eqS (l m : List UInt8) : fastBin .eql (.v (.string ⟨⟨l⟩⟩)) (.v (.string ⟨⟨m⟩⟩)) = some (.v (.bool (decide (l = m)))) := by
  simp only [fastBin, eqBytes_eq]
  have e : (l == m) = decide (l = m) := by rw [Bool.eq_iff_iff]; simp
  show some (AV.v (.bool (l == m))) = _
  rw [e]
theorem neNil9 (a b : AV) : neNil Tryz.prog 9 a b = false := by
  have h : Tryz.prog.underlying 9 = some .string := rfl
  unfold neNil; rw [h]
/-- Does a text begin so? -/
def startsW (pre l : List UInt8) : Bool := decide (l.take pre.length = pre)
theorem pre122_w (l pre : List UInt8) (S : St) : WC E1 220 [strS l, strS pre] S (fun r => r = .ret (.v (.bool (startsW pre l))) S) := by
  refine WC_fn Tryz.f220 (by kernel_rfl) (by kernel_rfl) (by kernel_rfl) (show (_ : Nat) ≤ _ from by show (_ : Nat) ≤ _; simp [Tryz.f220]) ?_
  unfold strS
  by_cases h : (pre.length : Int) ≤ (l.length : Int)
  · have hs := sl9_to l pre.length (by omega)
    simp only [thenW_normal, thenW_exit, thenW_ret, thenW_pan, W_skip, W_region, W_drawn, W_seq, W_cond, W_block, W_loop, W_exit, W_ret, seqQ_normal, seqQ_exit, seqQ_ret, seqQ_pan, blockW_normal, blockW_ret, blockW_pan, blockW_exit, WL_nil, WL_cons, execL_no, execL_val, execL_skip, execL_enter, execL_pan, putL_none, putL_some, retL_ret, retL_pan, condW_t, condW_f, wantedA, exec1, evalO, initT, T.get_set, T.get_leaf, callA, mapO, ofOpt, ofOptS, ofConst, e1_P, e1_G, partsA, neNil3, finW_ret, finW_pan, giveW, resultsA, tupA, ground_not, notO_bool, fb_lss, fb_leq, fb_gtr, fb_geq, fb_add, fb_eqlI, fb_neqI, Nat.reduceLT, Nat.reduceAdd, Nat.reduceEqDiff, if_true, if_false, reduceIte, true_and, and_true, Option.getD_some, List.getElem?_toArray, List.getElem?_cons_succ, List.getElem?_cons_zero, Option.bind_some, List.nil_append, List.append_nil, beq_self_eq_true, Bool.false_eq_true, Bool.true_eq_false, decide_true, decide_false, Bool.not_true, Bool.not_false, Bool.false_beq, Bool.true_beq, Option.toList, List.head?_cons, List.head?_nil, Tryz.f220, len9, h, ge_iff_le, hs, fb_eqS, neNil9, startsW]
  · have e : startsW pre l = false := by
      unfold startsW
      rw [decide_eq_false_iff_not]; intro hq
      have := congrArg List.length hq
      simp at this; omega
    simp only [thenW_normal, thenW_exit, thenW_ret, thenW_pan, W_skip, W_region, W_drawn, W_seq, W_cond, W_block, W_loop, W_exit, W_ret, seqQ_normal, seqQ_exit, seqQ_ret, seqQ_pan, blockW_normal, blockW_ret, blockW_pan, blockW_exit, WL_nil, WL_cons, execL_no, execL_val, execL_skip, execL_enter, execL_pan, putL_none, putL_some, retL_ret, retL_pan, condW_t, condW_f, wantedA, exec1, evalO, initT, T.get_set, T.get_leaf, callA, mapO, ofOpt, ofOptS, ofConst, e1_P, e1_G, partsA, neNil3, finW_ret, finW_pan, giveW, resultsA, tupA, ground_not, notO_bool, fb_lss, fb_leq, fb_gtr, fb_geq, fb_add, fb_eqlI, fb_neqI, Nat.reduceLT, Nat.reduceAdd, Nat.reduceEqDiff, if_true, if_false, reduceIte, true_and, and_true, Option.getD_some, List.getElem?_toArray, List.getElem?_cons_succ, List.getElem?_cons_zero, Option.bind_some, List.nil_append, List.append_nil, beq_self_eq_true, Bool.false_eq_true, Bool.true_eq_false, decide_true, decide_false, Bool.not_true, Bool.not_false, Bool.false_beq, Bool.true_beq, Option.toList, List.head?_cons, List.head?_nil, Tryz.f220, len9, h, ge_iff_le, fb_eqS, neNil9, e]
theorem fnOk122 : ∃ fn, E1.F 220 = some fn := Option.isSome_iff_exists.1 (by kernel_rfl)
theorem pre_w (l pre : List UInt8) (S : St) : WC E1 170 [strS l, strS pre] S (fun r => r = .ret (.v (.bool (startsW pre l))) S) := by
  refine WC_fn Tryz.f170 (by kernel_rfl) (by kernel_rfl) (by kernel_rfl) (show (_ : Nat) ≤ _ from by show (_ : Nat) ≤ _; simp [Tryz.f170]) ?_
  obtain ⟨fn1, hf1⟩ := fnOk122
  simp only [thenW_normal, thenW_exit, thenW_ret, thenW_pan, W_skip, W_region, W_drawn, W_seq, W_cond, W_block, W_loop, W_exit, W_ret, seqQ_normal, seqQ_exit, seqQ_ret, seqQ_pan, blockW_normal, blockW_ret, blockW_pan, blockW_exit, WL_nil, WL_cons, execL_no, execL_val, execL_skip, execL_enter, execL_pan, putL_none, putL_some, retL_ret, retL_pan, condW_t, condW_f, wantedA, exec1, evalO, initT, T.get_set, T.get_leaf, callA, mapO, ofOpt, ofOptS, ofConst, e1_P, e1_G, partsA, neNil3, finW_ret, finW_pan, giveW, resultsA, tupA, ground_not, notO_bool, fb_lss, fb_leq, fb_gtr, fb_geq, fb_add, fb_eqlI, fb_neqI, Nat.reduceLT, Nat.reduceAdd, Nat.reduceEqDiff, if_true, if_false, reduceIte, true_and, and_true, Option.getD_some, List.getElem?_toArray, List.getElem?_cons_succ, List.getElem?_cons_zero, Option.bind_some, List.nil_append, List.append_nil, beq_self_eq_true, Bool.false_eq_true, Bool.true_eq_false, decide_true, decide_false, Bool.not_true, Bool.not_false, Bool.false_beq, Bool.true_beq, Option.toList, List.head?_cons, List.head?_nil, Tryz.f170, hf1]
  refine WC.mono (pre122_w l pre S) ?_
  rintro _ rfl
  simp only [thenW_normal, thenW_exit, thenW_ret, thenW_pan, W_skip, W_region, W_drawn, W_seq, W_cond, W_block, W_loop, W_exit, W_ret, seqQ_normal, seqQ_exit, seqQ_ret, seqQ_pan, blockW_normal, blockW_ret, blockW_pan, blockW_exit, WL_nil, WL_cons, execL_no, execL_val, execL_skip, execL_enter, execL_pan, putL_none, putL_some, retL_ret, retL_pan, condW_t, condW_f, wantedA, exec1, evalO, initT, T.get_set, T.get_leaf, callA, mapO, ofOpt, ofOptS, ofConst, e1_P, e1_G, partsA, neNil3, finW_ret, finW_pan, giveW, resultsA, tupA, ground_not, notO_bool, fb_lss, fb_leq, fb_gtr, fb_geq, fb_add, fb_eqlI, fb_neqI, Nat.reduceLT, Nat.reduceAdd, Nat.reduceEqDiff, if_true, if_false, reduceIte, true_and, and_true, Option.getD_some, List.getElem?_toArray, List.getElem?_cons_succ, List.getElem?_cons_zero, Option.bind_some, List.nil_append, List.append_nil, beq_self_eq_true, Bool.false_eq_true, Bool.true_eq_false, decide_true, decide_false, Bool.not_true, Bool.not_false, Bool.false_beq, Bool.true_beq, Option.toList, List.head?_cons, List.head?_nil, Tryz.f170]
theorem e69 : elemT Tryz.prog 33 = some (none, 9) := by kernel_rfl
theorem u69 : Tryz.prog.underlying 33 = some (.slice 9) := by kernel_rfl
theorem s9 : sizeT Tryz.prog 9 = some 1 := by kernel_rfl
theorem a9 : isAggT Tryz.prog 9 = some false := by kernel_rfl
theorem len69 (S : St) (tok off : Nat) (es : List AV) : oLen Tryz.prog S 33 (.sl tok off 1 es) = some es.length := by simp [oLen, u69]
theorem idx69 (tok off : Nat) (ws : List (List UInt8)) (i : Nat) (h : i < ws.length) : oIndexAddr Tryz.prog 33 (.sl tok off 1 (ws.map strS)) (.v (.int .i64 (i : Int))) = some (.ep [strS ws[i]]) := by
  have h0 : (0 : Int) ≤ (i : Int) := by omega
  simp [oIndexAddr, h0, e69, s9, h, strS, AV.cells]
theorem load9 (S : St) (x : AV) : oLoad Tryz.prog S 9 (.ep [x]) = some x := by simp [oLoad, behind, a9]
def indexBody : Code := match Tryz.f184.body with
  | some (.seq _ (.seq (.seq _ (.block _ (.loop c))) _)) => c
  | _ => .skip
theorem index_loop (tok off : Nat) (ws : List (List UInt8)) (s : List UInt8) (hl : ws.length ≤ 100000) (S : St) : ∀ (m i : Nat) (t : T AV), i + m = ws.length → t.get 0 = some (.sl tok off 1 (ws.map strS)) → t.get 1 = some (strS s) → t.get 7 = some (intA ws.length) → t.get 8 = some (intA i) →
    WX E1 19 (.loop indexBody) ⟨t, []⟩ S (fun r => ∃ t', (r = .out (.exit 0) ⟨t', []⟩ S ∧ s ∉ ws.drop i) ∨ (∃ j : Nat, r = .out .ret ⟨t', []⟩ S ∧ t'.get 4 = some (intA j) ∧ s ∈ ws.drop i))
  | 0, i, t, hi, h0, h1, h7, h8 => by
    refine WX_loop (W_sound ?_)
    have hlt : ¬ ((i : Int) < (ws.length : Int)) := by omega
    have hd : ws.drop i = [] := List.drop_eq_nil_of_le (by omega)
    simp only [strS, intA] at h0 h1 h7 h8 ⊢
    simp only [thenW_normal, thenW_exit, thenW_ret, thenW_pan, W_skip, W_region, W_drawn, W_seq, W_cond, W_block, W_loop, W_exit, W_ret, seqQ_normal, seqQ_exit, seqQ_ret, seqQ_pan, blockW_normal, blockW_ret, blockW_pan, blockW_exit, WL_nil, WL_cons, execL_no, execL_val, execL_skip, execL_enter, execL_pan, putL_none, putL_some, retL_ret, retL_pan, condW_t, condW_f, wantedA, exec1, evalO, initT, T.get_set, T.get_leaf, callA, mapO, ofOpt, ofOptS, ofConst, e1_P, e1_G, partsA, neNil3, finW_ret, finW_pan, giveW, resultsA, tupA, ground_not, notO_bool, fb_lss, fb_leq, fb_gtr, fb_geq, fb_add, fb_eqlI, fb_neqI, Nat.reduceLT, Nat.reduceAdd, Nat.reduceEqDiff, if_true, if_false, reduceIte, true_and, and_true, Option.getD_some, List.getElem?_toArray, List.getElem?_cons_succ, List.getElem?_cons_zero, Option.bind_some, List.nil_append, List.append_nil, beq_self_eq_true, Bool.false_eq_true, Bool.true_eq_false, decide_true, decide_false, Bool.not_true, Bool.not_false, Bool.false_beq, Bool.true_beq, Option.toList, List.head?_cons, List.head?_nil, indexBody, Tryz.f184, h0, h1, h7, h8, hlt]
    exact ⟨_, .inl ⟨rfl, by rw [hd]; exact List.not_mem_nil⟩⟩
  | m + 1, i, t, hi, h0, h1, h7, h8 => by
    refine WX_loop (W_sound ?_)
    have hil : i < ws.length := by omega
    have hlt : ((i : Int) < (ws.length : Int)) := by omega
    have hd : ws.drop i = ws[i] :: ws.drop (i + 1) := List.drop_eq_getElem_cons hil
    have hx := idx69 tok off ws i hil
    have hw := wrap_one (i := i) (by omega)
    have hq := fb_eqS s ws[i]
    simp only [strS, intA] at h0 h1 h7 h8 hx ⊢
    by_cases he : s = ws[i]
    · rw [decide_eq_true he] at hq
      simp only [thenW_normal, thenW_exit, thenW_ret, thenW_pan, W_skip, W_region, W_drawn, W_seq, W_cond, W_block, W_loop, W_exit, W_ret, seqQ_normal, seqQ_exit, seqQ_ret, seqQ_pan, blockW_normal, blockW_ret, blockW_pan, blockW_exit, WL_nil, WL_cons, execL_no, execL_val, execL_skip, execL_enter, execL_pan, putL_none, putL_some, retL_ret, retL_pan, condW_t, condW_f, wantedA, exec1, evalO, initT, T.get_set, T.get_leaf, callA, mapO, ofOpt, ofOptS, ofConst, e1_P, e1_G, partsA, neNil3, finW_ret, finW_pan, giveW, resultsA, tupA, ground_not, notO_bool, fb_lss, fb_leq, fb_gtr, fb_geq, fb_add, fb_eqlI, fb_neqI, Nat.reduceLT, Nat.reduceAdd, Nat.reduceEqDiff, if_true, if_false, reduceIte, true_and, and_true, Option.getD_some, List.getElem?_toArray, List.getElem?_cons_succ, List.getElem?_cons_zero, Option.bind_some, List.nil_append, List.append_nil, beq_self_eq_true, Bool.false_eq_true, Bool.true_eq_false, decide_true, decide_false, Bool.not_true, Bool.not_false, Bool.false_beq, Bool.true_beq, Option.toList, List.head?_cons, List.head?_nil, indexBody, Tryz.f184, h0, h1, h7, h8, hlt, hx, load9, neNil9, hq]
      exact ⟨_, .inr ⟨i, rfl, by simp only [T.get_set, Nat.reduceEqDiff, if_true], by rw [hd, he]; exact List.mem_cons_self ..⟩⟩
    · rw [decide_eq_false he] at hq
      simp only [thenW_normal, thenW_exit, thenW_ret, thenW_pan, W_skip, W_region, W_drawn, W_seq, W_cond, W_block, W_loop, W_exit, W_ret, seqQ_normal, seqQ_exit, seqQ_ret, seqQ_pan, blockW_normal, blockW_ret, blockW_pan, blockW_exit, WL_nil, WL_cons, execL_no, execL_val, execL_skip, execL_enter, execL_pan, putL_none, putL_some, retL_ret, retL_pan, condW_t, condW_f, wantedA, exec1, evalO, initT, T.get_set, T.get_leaf, callA, mapO, ofOpt, ofOptS, ofConst, e1_P, e1_G, partsA, neNil3, finW_ret, finW_pan, giveW, resultsA, tupA, ground_not, notO_bool, fb_lss, fb_leq, fb_gtr, fb_geq, fb_add, fb_eqlI, fb_neqI, Nat.reduceLT, Nat.reduceAdd, Nat.reduceEqDiff, if_true, if_false, reduceIte, true_and, and_true, Option.getD_some, List.getElem?_toArray, List.getElem?_cons_succ, List.getElem?_cons_zero, Option.bind_some, List.nil_append, List.append_nil, beq_self_eq_true, Bool.false_eq_true, Bool.true_eq_false, decide_true, decide_false, Bool.not_true, Bool.not_false, Bool.false_beq, Bool.true_beq, Option.toList, List.head?_cons, List.head?_nil, indexBody, Tryz.f184, h0, h1, h7, h8, hlt, hx, load9, neNil9, hq, hw]
      refine WX.mono (index_loop tok off ws s hl S m (i + 1) _ (by omega) ?_ ?_ ?_ ?_) ?_
      · simp only [T.get_set, Nat.reduceEqDiff, if_false, h0]
      · simp only [T.get_set, Nat.reduceEqDiff, if_false, h1]; rfl
      · simp only [T.get_set, Nat.reduceEqDiff, if_false, h7]; rfl
      · simp only [T.get_set, Nat.reduceEqDiff, if_true]; rfl
      · rintro r ⟨t', ⟨rfl, h⟩ | ⟨j, rfl, h, hm⟩⟩
        · exact ⟨t', .inl ⟨rfl, by rw [hd]; exact fun hc => (List.mem_cons.1 hc).elim he h⟩⟩
        · exact ⟨t', .inr ⟨j, rfl, h, by rw [hd]; exact List.mem_cons_of_mem _ hm⟩⟩
theorem index_w (tok off : Nat) (ws : List (List UInt8)) (s : List UInt8) (hl : ws.length ≤ 100000) (S : St) : WC E1 184 [.sl tok off 1 (ws.map strS), strS s] S (fun r => ∃ x : Int, r = .ret (.v (.int .i64 x)) S ∧ (decide (0 ≤ x) = decide (s ∈ ws))) := by
  refine WC_fn Tryz.f184 (by kernel_rfl) (by kernel_rfl) (by kernel_rfl) (show (_ : Nat) ≤ _ from by show (_ : Nat) ≤ _; simp [Tryz.f184]) ?_
  have key := fun t h0 h1 h7 h8 => index_loop tok off ws s hl S ws.length 0 t (by omega) h0 h1 h7 h8
  unfold indexBody at key
  simp only [Tryz.f184] at key
  have hL := len69 S tok off (ws.map strS)
  rw [List.length_map] at hL
  simp only [thenW_normal, thenW_exit, thenW_ret, thenW_pan, W_skip, W_region, W_drawn, W_seq, W_cond, W_block, W_loop, W_exit, W_ret, seqQ_normal, seqQ_exit, seqQ_ret, seqQ_pan, blockW_normal, blockW_ret, blockW_pan, blockW_exit, WL_nil, WL_cons, execL_no, execL_val, execL_skip, execL_enter, execL_pan, putL_none, putL_some, retL_ret, retL_pan, condW_t, condW_f, wantedA, exec1, evalO, initT, T.get_set, T.get_leaf, callA, mapO, ofOpt, ofOptS, ofConst, e1_P, e1_G, partsA, neNil3, finW_ret, finW_pan, giveW, resultsA, tupA, ground_not, notO_bool, fb_lss, fb_leq, fb_gtr, fb_geq, fb_add, fb_eqlI, fb_neqI, Nat.reduceLT, Nat.reduceAdd, Nat.reduceEqDiff, if_true, if_false, reduceIte, true_and, and_true, Option.getD_some, List.getElem?_toArray, List.getElem?_cons_succ, List.getElem?_cons_zero, Option.bind_some, List.nil_append, List.append_nil, beq_self_eq_true, Bool.false_eq_true, Bool.true_eq_false, decide_true, decide_false, Bool.not_true, Bool.not_false, Bool.false_beq, Bool.true_beq, Option.toList, List.head?_cons, List.head?_nil, Tryz.f184, hL]
  refine WX.mono (key _ ?_ ?_ ?_ ?_) ?_
  · simp only [T.get_set, T.get_leaf, Nat.reduceEqDiff, if_true, if_false]
  · simp only [T.get_set, T.get_leaf, Nat.reduceEqDiff, if_true, if_false]
  · simp only [T.get_set, T.get_leaf, Nat.reduceEqDiff, if_true, if_false]; rfl
  · simp only [T.get_set, T.get_leaf, Nat.reduceEqDiff, if_true, if_false]; rfl
  · rintro r ⟨t', ⟨rfl, h⟩ | ⟨j, rfl, h, hm⟩⟩
    · simp only [thenW_normal, thenW_exit, thenW_ret, thenW_pan, W_skip, W_region, W_drawn, W_seq, W_cond, W_block, W_loop, W_exit, W_ret, seqQ_normal, seqQ_exit, seqQ_ret, seqQ_pan, blockW_normal, blockW_ret, blockW_pan, blockW_exit, WL_nil, WL_cons, execL_no, execL_val, execL_skip, execL_enter, execL_pan, putL_none, putL_some, retL_ret, retL_pan, condW_t, condW_f, wantedA, exec1, evalO, initT, T.get_set, T.get_leaf, callA, mapO, ofOpt, ofOptS, ofConst, e1_P, e1_G, partsA, neNil3, finW_ret, finW_pan, giveW, resultsA, tupA, ground_not, notO_bool, fb_lss, fb_leq, fb_gtr, fb_geq, fb_add, fb_eqlI, fb_neqI, Nat.reduceLT, Nat.reduceAdd, Nat.reduceEqDiff, if_true, if_false, reduceIte, true_and, and_true, Option.getD_some, List.getElem?_toArray, List.getElem?_cons_succ, List.getElem?_cons_zero, Option.bind_some, List.nil_append, List.append_nil, beq_self_eq_true, Bool.false_eq_true, Bool.true_eq_false, decide_true, decide_false, Bool.not_true, Bool.not_false, Bool.false_beq, Bool.true_beq, Option.toList, List.head?_cons, List.head?_nil, h]
      refine ⟨_, rfl, ?_⟩
      rw [List.drop_zero] at h
      rw [decide_eq_false h]; rfl
    · unfold intA at h
      simp only [thenW_normal, thenW_exit, thenW_ret, thenW_pan, W_skip, W_region, W_drawn, W_seq, W_cond, W_block, W_loop, W_exit, W_ret, seqQ_normal, seqQ_exit, seqQ_ret, seqQ_pan, blockW_normal, blockW_ret, blockW_pan, blockW_exit, WL_nil, WL_cons, execL_no, execL_val, execL_skip, execL_enter, execL_pan, putL_none, putL_some, retL_ret, retL_pan, condW_t, condW_f, wantedA, exec1, evalO, initT, T.get_set, T.get_leaf, callA, mapO, ofOpt, ofOptS, ofConst, e1_P, e1_G, partsA, neNil3, finW_ret, finW_pan, giveW, resultsA, tupA, ground_not, notO_bool, fb_lss, fb_leq, fb_gtr, fb_geq, fb_add, fb_eqlI, fb_neqI, Nat.reduceLT, Nat.reduceAdd, Nat.reduceEqDiff, if_true, if_false, reduceIte, true_and, and_true, Option.getD_some, List.getElem?_toArray, List.getElem?_cons_succ, List.getElem?_cons_zero, Option.bind_some, List.nil_append, List.append_nil, beq_self_eq_true, Bool.false_eq_true, Bool.true_eq_false, decide_true, decide_false, Bool.not_true, Bool.not_false, Bool.false_beq, Bool.true_beq, Option.toList, List.head?_cons, List.head?_nil, h]
      refine ⟨_, rfl, ?_⟩
      rw [List.drop_zero] at hm
      rw [decide_eq_true hm, decide_eq_true (show (0 : Int) ≤ (j : Int) by omega)]
theorem fnOk160 : ∃ fn, E1.F 184 = some fn := Option.isSome_iff_exists.1 (by kernel_rfl)
theorem contains_w (tok off : Nat) (ws : List (List UInt8)) (s : List UInt8) (hl : ws.length ≤ 100000) (S : St) : WC E1 109 [.sl tok off 1 (ws.map strS), strS s] S (fun r => r = .ret (.v (.bool (decide (s ∈ ws)))) S) := by
  refine WC_fn Tryz.f109 (by kernel_rfl) (by kernel_rfl) (by kernel_rfl) (show (_ : Nat) ≤ _ from by show (_ : Nat) ≤ _; simp [Tryz.f109]) ?_
  obtain ⟨fn1, hf1⟩ := fnOk160
  simp only [thenW_normal, thenW_exit, thenW_ret, thenW_pan, W_skip, W_region, W_drawn, W_seq, W_cond, W_block, W_loop, W_exit, W_ret, seqQ_normal, seqQ_exit, seqQ_ret, seqQ_pan, blockW_normal, blockW_ret, blockW_pan, blockW_exit, WL_nil, WL_cons, execL_no, execL_val, execL_skip, execL_enter, execL_pan, putL_none, putL_some, retL_ret, retL_pan, condW_t, condW_f, wantedA, exec1, evalO, initT, T.get_set, T.get_leaf, callA, mapO, ofOpt, ofOptS, ofConst, e1_P, e1_G, partsA, neNil3, finW_ret, finW_pan, giveW, resultsA, tupA, ground_not, notO_bool, fb_lss, fb_leq, fb_gtr, fb_geq, fb_add, fb_eqlI, fb_neqI, Nat.reduceLT, Nat.reduceAdd, Nat.reduceEqDiff, if_true, if_false, reduceIte, true_and, and_true, Option.getD_some, List.getElem?_toArray, List.getElem?_cons_succ, List.getElem?_cons_zero, Option.bind_some, List.nil_append, List.append_nil, beq_self_eq_true, Bool.false_eq_true, Bool.true_eq_false, decide_true, decide_false, Bool.not_true, Bool.not_false, Bool.false_beq, Bool.true_beq, Option.toList, List.head?_cons, List.head?_nil, Tryz.f109, hf1]
  refine WC.mono (index_w tok off ws s hl S) ?_
  rintro _ ⟨x, rfl, hx⟩
  simp only [thenW_normal, thenW_exit, thenW_ret, thenW_pan, W_skip, W_region, W_drawn, W_seq, W_cond, W_block, W_loop, W_exit, W_ret, seqQ_normal, seqQ_exit, seqQ_ret, seqQ_pan, blockW_normal, blockW_ret, blockW_pan, blockW_exit, WL_nil, WL_cons, execL_no, execL_val, execL_skip, execL_enter, execL_pan, putL_none, putL_some, retL_ret, retL_pan, condW_t, condW_f, wantedA, exec1, evalO, initT, T.get_set, T.get_leaf, callA, mapO, ofOpt, ofOptS, ofConst, e1_P, e1_G, partsA, neNil3, finW_ret, finW_pan, giveW, resultsA, tupA, ground_not, notO_bool, fb_lss, fb_leq, fb_gtr, fb_geq, fb_add, fb_eqlI, fb_neqI, Nat.reduceLT, Nat.reduceAdd, Nat.reduceEqDiff, if_true, if_false, reduceIte, true_and, and_true, Option.getD_some, List.getElem?_toArray, List.getElem?_cons_succ, List.getElem?_cons_zero, Option.bind_some, List.nil_append, List.append_nil, beq_self_eq_true, Bool.false_eq_true, Bool.true_eq_false, decide_true, decide_false, Bool.not_true, Bool.not_false, Bool.false_beq, Bool.true_beq, Option.toList, List.head?_cons, List.head?_nil, Tryz.f109, ge_iff_le, hx]
/-- How many bytes are skipped: blanks, remarks. -/
def skipF : Nat → List UInt8 → Nat
  | 0, _ => 0
  | n + 1, l => if startsW [45, 45] (l.drop (cnt isBlank l)) then cnt isBlank l + (cnt notEnd (l.drop (cnt isBlank l)) + skipF n (l.drop (cnt isBlank l + cnt notEnd (l.drop (cnt isBlank l))))) else cnt isBlank l
theorem skipF_succ (n : Nat) (l : List UInt8) : skipF (n + 1) l = if startsW [45, 45] (l.drop (cnt isBlank l)) then cnt isBlank l + (cnt notEnd (l.drop (cnt isBlank l)) + skipF n (l.drop (cnt isBlank l + cnt notEnd (l.drop (cnt isBlank l))))) else cnt isBlank l := rfl
theorem skipF_le : ∀ (n : Nat) (l : List UInt8), skipF n l ≤ l.length
  | 0, l => Nat.zero_le _
  | n + 1, l => by
    have h1 := cnt_le isBlank l
    have h2 := cnt_le notEnd (l.drop (cnt isBlank l))
    have h3 := skipF_le n (l.drop (cnt isBlank l + cnt notEnd (l.drop (cnt isBlank l))))
    unfold skipF
    simp only [List.length_drop] at h2 h3
    split <;> omega
def skipBody : Code := match Tryz.f98.body with
  | some (.seq _ (.block _ (.loop c))) => c
  | _ => .skip
theorem fnOk96 : ∃ fn, E1.F 168 = some fn := Option.isSome_iff_exists.1 (by kernel_rfl)
theorem fnOk85 : ∃ fn, E1.F 170 = some fn := Option.isSome_iff_exists.1 (by kernel_rfl)
theorem dash_len {l : List UInt8} (h : startsW [45, 45] l = true) : 1 ≤ cnt notEnd l := by
  unfold startsW at h
  rw [decide_eq_true_iff] at h
  cases l with
  | nil => cases h
  | cons a r =>
    cases r with
    | nil => cases h
    | cons b r =>
      simp at h
      obtain ⟨rfl, rfl⟩ := h
      unfold cnt
      rw [if_pos (by decide)]; omega
theorem skip_loop (l : List UInt8) (hl : l.length ≤ 100000) (S : St) : ∀ (n i : Nat) (t : T AV), l.length - i < n → i ≤ l.length → t.get 0 = some (strS l) → t.get 1 = some (intA i) →
    WX E1 17 (.loop skipBody) ⟨t, []⟩ S (fun r => ∃ t', r = .out .ret ⟨t', []⟩ S ∧ t'.get 4 = some (intA (i + skipF n (l.drop i))))
  | 0, i, t, hn, hi, h0, h1 => absurd hn (Nat.not_lt_zero _)
  | n + 1, i, t, hn, hi, h0, h1 => by
    refine WX_loop (W_sound ?_)
    obtain ⟨fn1, hf1⟩ := fnOk96
    obtain ⟨fn2, hf2⟩ := fnOk85
    have hc1 := cnt_le isBlank (l.drop i)
    rw [List.length_drop] at hc1
    have hs := sl9_from l (i + cnt isBlank (l.drop i)) (by omega)
    have hdd : l.drop (i + cnt isBlank (l.drop i)) = (l.drop i).drop (cnt isBlank (l.drop i)) := by rw [List.drop_drop]
    simp only [strS, intA] at h0 h1 ⊢
    simp only [thenW_normal, thenW_exit, thenW_ret, thenW_pan, W_skip, W_region, W_drawn, W_seq, W_cond, W_block, W_loop, W_exit, W_ret, seqQ_normal, seqQ_exit, seqQ_ret, seqQ_pan, blockW_normal, blockW_ret, blockW_pan, blockW_exit, WL_nil, WL_cons, execL_no, execL_val, execL_skip, execL_enter, execL_pan, putL_none, putL_some, retL_ret, retL_pan, condW_t, condW_f, wantedA, exec1, evalO, initT, T.get_set, T.get_leaf, callA, mapO, ofOpt, ofOptS, ofConst, e1_P, e1_G, partsA, neNil3, finW_ret, finW_pan, giveW, resultsA, tupA, ground_not, notO_bool, fb_lss, fb_leq, fb_gtr, fb_geq, fb_add, fb_eqlI, fb_neqI, Nat.reduceLT, Nat.reduceAdd, Nat.reduceEqDiff, if_true, if_false, reduceIte, true_and, and_true, Option.getD_some, List.getElem?_toArray, List.getElem?_cons_succ, List.getElem?_cons_zero, Option.bind_some, List.nil_append, List.append_nil, beq_self_eq_true, Bool.false_eq_true, Bool.true_eq_false, decide_true, decide_false, Bool.not_true, Bool.not_false, Bool.false_beq, Bool.true_beq, Option.toList, List.head?_cons, List.head?_nil, skipBody, Tryz.f98, h0, h1, hf1, hf2]
    refine WC.mono (behind_w blankT l hl i hi S) ?_
    rintro _ rfl
    simp only [intA]
    simp only [thenW_normal, thenW_exit, thenW_ret, thenW_pan, W_skip, W_region, W_drawn, W_seq, W_cond, W_block, W_loop, W_exit, W_ret, seqQ_normal, seqQ_exit, seqQ_ret, seqQ_pan, blockW_normal, blockW_ret, blockW_pan, blockW_exit, WL_nil, WL_cons, execL_no, execL_val, execL_skip, execL_enter, execL_pan, putL_none, putL_some, retL_ret, retL_pan, condW_t, condW_f, wantedA, exec1, evalO, initT, T.get_set, T.get_leaf, callA, mapO, ofOpt, ofOptS, ofConst, e1_P, e1_G, partsA, neNil3, finW_ret, finW_pan, giveW, resultsA, tupA, ground_not, notO_bool, fb_lss, fb_leq, fb_gtr, fb_geq, fb_add, fb_eqlI, fb_neqI, Nat.reduceLT, Nat.reduceAdd, Nat.reduceEqDiff, if_true, if_false, reduceIte, true_and, and_true, Option.getD_some, List.getElem?_toArray, List.getElem?_cons_succ, List.getElem?_cons_zero, Option.bind_some, List.nil_append, List.append_nil, beq_self_eq_true, Bool.false_eq_true, Bool.true_eq_false, decide_true, decide_false, Bool.not_true, Bool.not_false, Bool.false_beq, Bool.true_beq, Option.toList, List.head?_cons, List.head?_nil, skipBody, Tryz.f98, h0, h1, hf1, hf2, hs]
    refine WC.mono (pre_w (l.drop (i + cnt isBlank (l.drop i))) [45, 45] S) ?_
    rintro _ rfl
    cases hb : startsW [45, 45] (l.drop (i + cnt isBlank (l.drop i)))
    · have e : skipF (n + 1) (l.drop i) = cnt isBlank (l.drop i) := by unfold skipF; rw [← hdd, hb]; rfl
      simp only [thenW_normal, thenW_exit, thenW_ret, thenW_pan, W_skip, W_region, W_drawn, W_seq, W_cond, W_block, W_loop, W_exit, W_ret, seqQ_normal, seqQ_exit, seqQ_ret, seqQ_pan, blockW_normal, blockW_ret, blockW_pan, blockW_exit, WL_nil, WL_cons, execL_no, execL_val, execL_skip, execL_enter, execL_pan, putL_none, putL_some, retL_ret, retL_pan, condW_t, condW_f, wantedA, exec1, evalO, initT, T.get_set, T.get_leaf, callA, mapO, ofOpt, ofOptS, ofConst, e1_P, e1_G, partsA, neNil3, finW_ret, finW_pan, giveW, resultsA, tupA, ground_not, notO_bool, fb_lss, fb_leq, fb_gtr, fb_geq, fb_add, fb_eqlI, fb_neqI, Nat.reduceLT, Nat.reduceAdd, Nat.reduceEqDiff, if_true, if_false, reduceIte, true_and, and_true, Option.getD_some, List.getElem?_toArray, List.getElem?_cons_succ, List.getElem?_cons_zero, Option.bind_some, List.nil_append, List.append_nil, beq_self_eq_true, Bool.false_eq_true, Bool.true_eq_false, decide_true, decide_false, Bool.not_true, Bool.not_false, Bool.false_beq, Bool.true_beq, Option.toList, List.head?_cons, List.head?_nil, skipBody, Tryz.f98, h0, h1, hf1, hf2, hs, e]
      exact ⟨_, rfl, by simp only [T.get_set, Nat.reduceEqDiff, if_true]⟩
    · have e : skipF (n + 1) (l.drop i) = cnt isBlank (l.drop i) + (cnt notEnd (l.drop (i + cnt isBlank (l.drop i))) + skipF n (l.drop (i + cnt isBlank (l.drop i) + cnt notEnd (l.drop (i + cnt isBlank (l.drop i)))))) := by
        rw [skipF_succ, ← hdd, hb]; simp only [if_true, List.drop_drop, Nat.add_assoc]
      simp only [thenW_normal, thenW_exit, thenW_ret, thenW_pan, W_skip, W_region, W_drawn, W_seq, W_cond, W_block, W_loop, W_exit, W_ret, seqQ_normal, seqQ_exit, seqQ_ret, seqQ_pan, blockW_normal, blockW_ret, blockW_pan, blockW_exit, WL_nil, WL_cons, execL_no, execL_val, execL_skip, execL_enter, execL_pan, putL_none, putL_some, retL_ret, retL_pan, condW_t, condW_f, wantedA, exec1, evalO, initT, T.get_set, T.get_leaf, callA, mapO, ofOpt, ofOptS, ofConst, e1_P, e1_G, partsA, neNil3, finW_ret, finW_pan, giveW, resultsA, tupA, ground_not, notO_bool, fb_lss, fb_leq, fb_gtr, fb_geq, fb_add, fb_eqlI, fb_neqI, Nat.reduceLT, Nat.reduceAdd, Nat.reduceEqDiff, if_true, if_false, reduceIte, true_and, and_true, Option.getD_some, List.getElem?_toArray, List.getElem?_cons_succ, List.getElem?_cons_zero, Option.bind_some, List.nil_append, List.append_nil, beq_self_eq_true, Bool.false_eq_true, Bool.true_eq_false, decide_true, decide_false, Bool.not_true, Bool.not_false, Bool.false_beq, Bool.true_beq, Option.toList, List.head?_cons, List.head?_nil, skipBody, Tryz.f98, h0, h1, hf1, hf2, hs]
      refine WC.mono (behind_w notEndT l hl (i + cnt isBlank (l.drop i)) (by omega) S) ?_
      rintro _ rfl
      simp only [intA]
      simp only [thenW_normal, thenW_exit, thenW_ret, thenW_pan, W_skip, W_region, W_drawn, W_seq, W_cond, W_block, W_loop, W_exit, W_ret, seqQ_normal, seqQ_exit, seqQ_ret, seqQ_pan, blockW_normal, blockW_ret, blockW_pan, blockW_exit, WL_nil, WL_cons, execL_no, execL_val, execL_skip, execL_enter, execL_pan, putL_none, putL_some, retL_ret, retL_pan, condW_t, condW_f, wantedA, exec1, evalO, initT, T.get_set, T.get_leaf, callA, mapO, ofOpt, ofOptS, ofConst, e1_P, e1_G, partsA, neNil3, finW_ret, finW_pan, giveW, resultsA, tupA, ground_not, notO_bool, fb_lss, fb_leq, fb_gtr, fb_geq, fb_add, fb_eqlI, fb_neqI, Nat.reduceLT, Nat.reduceAdd, Nat.reduceEqDiff, if_true, if_false, reduceIte, true_and, and_true, Option.getD_some, List.getElem?_toArray, List.getElem?_cons_succ, List.getElem?_cons_zero, Option.bind_some, List.nil_append, List.append_nil, beq_self_eq_true, Bool.false_eq_true, Bool.true_eq_false, decide_true, decide_false, Bool.not_true, Bool.not_false, Bool.false_beq, Bool.true_beq, Option.toList, List.head?_cons, List.head?_nil, skipBody, Tryz.f98, h0, h1, hf1, hf2, hs]
      have hc2 := cnt_le notEnd (l.drop (i + cnt isBlank (l.drop i)))
      rw [List.length_drop] at hc2
      have hc3 := dash_len hb
      refine WX.mono (skip_loop l hl S n (i + cnt isBlank (l.drop i) + cnt notEnd (l.drop (i + cnt isBlank (l.drop i)))) _ (by omega) (by omega) ?_ ?_) ?_
      · simp only [T.get_set, Nat.reduceEqDiff, if_false, h0]; rfl
      · simp only [T.get_set, Nat.reduceEqDiff, if_true]; rfl
      · rintro r ⟨t', rfl, h⟩
        refine ⟨t', rfl, ?_⟩
        rw [h, e]
        show some (intA _) = some (intA _)
        congr 2; omega
theorem skip_w (l : List UInt8) (hl : l.length ≤ 100000) (n i : Nat) (hn : l.length - i < n) (hi : i ≤ l.length) (S : St) : WC E1 98 [strS l, intA i] S (fun r => r = .ret (intA (i + skipF n (l.drop i))) S) := by
  refine WC_fn Tryz.f98 (by kernel_rfl) (by kernel_rfl) (by kernel_rfl) (show (_ : Nat) ≤ _ from by show (_ : Nat) ≤ _; simp [Tryz.f98]) ?_
  have key := fun t h0 h1 => skip_loop l hl S n i t hn hi h0 h1
  unfold skipBody at key
  simp only [Tryz.f98] at key
  simp only [thenW_normal, thenW_exit, thenW_ret, thenW_pan, W_skip, W_region, W_drawn, W_seq, W_cond, W_block, W_loop, W_exit, W_ret, seqQ_normal, seqQ_exit, seqQ_ret, seqQ_pan, blockW_normal, blockW_ret, blockW_pan, blockW_exit, WL_nil, WL_cons, execL_no, execL_val, execL_skip, execL_enter, execL_pan, putL_none, putL_some, retL_ret, retL_pan, condW_t, condW_f, wantedA, exec1, evalO, initT, T.get_set, T.get_leaf, callA, mapO, ofOpt, ofOptS, ofConst, e1_P, e1_G, partsA, neNil3, finW_ret, finW_pan, giveW, resultsA, tupA, ground_not, notO_bool, fb_lss, fb_leq, fb_gtr, fb_geq, fb_add, fb_eqlI, fb_neqI, Nat.reduceLT, Nat.reduceAdd, Nat.reduceEqDiff, if_true, if_false, reduceIte, true_and, and_true, Option.getD_some, List.getElem?_toArray, List.getElem?_cons_succ, List.getElem?_cons_zero, Option.bind_some, List.nil_append, List.append_nil, beq_self_eq_true, Bool.false_eq_true, Bool.true_eq_false, decide_true, decide_false, Bool.not_true, Bool.not_false, Bool.false_beq, Bool.true_beq, Option.toList, List.head?_cons, List.head?_nil, Tryz.f98]
  refine WX.mono (key _ ?_ ?_) ?_
  · simp only [T.get_set, T.get_leaf, Nat.reduceEqDiff, if_true, if_false]
  · simp only [T.get_set, T.get_leaf, Nat.reduceEqDiff, if_true, if_false]
  · rintro r ⟨t', rfl, h⟩
    simp only [thenW_normal, thenW_exit, thenW_ret, thenW_pan, W_skip, W_region, W_drawn, W_seq, W_cond, W_block, W_loop, W_exit, W_ret, seqQ_normal, seqQ_exit, seqQ_ret, seqQ_pan, blockW_normal, blockW_ret, blockW_pan, blockW_exit, WL_nil, WL_cons, execL_no, execL_val, execL_skip, execL_enter, execL_pan, putL_none, putL_some, retL_ret, retL_pan, condW_t, condW_f, wantedA, exec1, evalO, initT, T.get_set, T.get_leaf, callA, mapO, ofOpt, ofOptS, ofConst, e1_P, e1_G, partsA, neNil3, finW_ret, finW_pan, giveW, resultsA, tupA, ground_not, notO_bool, fb_lss, fb_leq, fb_gtr, fb_geq, fb_add, fb_eqlI, fb_neqI, Nat.reduceLT, Nat.reduceAdd, Nat.reduceEqDiff, if_true, if_false, reduceIte, true_and, and_true, Option.getD_some, List.getElem?_toArray, List.getElem?_cons_succ, List.getElem?_cons_zero, Option.bind_some, List.nil_append, List.append_nil, beq_self_eq_true, Bool.false_eq_true, Bool.true_eq_false, decide_true, decide_false, Bool.not_true, Bool.not_false, Bool.false_beq, Bool.true_beq, Option.toList, List.head?_cons, List.head?_nil, h]
end Go.Ax
noncomputable section
namespace Go.Ax
open Go.RowKit Go.Proofs
set_option linter.unusedVariables false
set_option linter.unusedSimpArgs false
set_option maxRecDepth 100000
def wordsL : List (List UInt8) := [[110, 111, 100, 101], [114, 101, 116, 117, 114, 110, 115], [118, 97, 114], [108, 101, 116], [116, 101, 108], [105, 110, 116], [98, 111, 111, 108], [102, 117, 116, 117, 114, 101], [119, 104, 101, 110], [110, 111, 116], [97, 110, 100], [111, 114], [120, 111, 114], [105, 102], [116, 104, 101, 110], [101, 108, 115, 101], [112, 114, 101], [102, 98, 121], [109, 101, 114, 103, 101], [97, 115, 121, 110, 99], [97, 119, 97, 105, 116], [97, 102, 116, 101, 114], [116, 114, 117, 101], [102, 97, 108, 115, 101], [109, 111, 100]]
def signsL : List (List UInt8) := [[60, 62], [60, 61], [62, 61], [45, 62], [40], [41], [44], [59], [58], [61], [60], [62], [43], [45], [42], [47]]
structure Tk where
  kind : Nat
  pos : Nat
  text : List UInt8
  num : Nat
def u64A (n : Nat) : AV := .v (.int .u64 (n : Int))
def tokC (t : Tk) : List AV := [intA t.kind, intA t.pos, strS t.text, u64A t.num]
def tokA (t : Tk) : AV := .agg (tokC t)
def zeroT : Tk := ⟨0, 0, [], 0⟩
def wordT (l : List UInt8) (i : Nat) : Tk × Nat :=
  if l.take (cnt isWordB l) ∈ wordsL then (⟨3, i, l.take (cnt isWordB l), 0⟩, 0) else if 30 < cnt isWordB l then (zeroT, 3) else (⟨1, i, l.take (cnt isWordB l), 0⟩, 0)
def numT (l : List UInt8) (i : Nat) : Option (Tk × Nat) :=
  if 1 < cnt isDigit l ∧ l.head? = some 48 then some (zeroT, 1) else if numV 0 (l.take (cnt isDigit l)) < 18446744073709551616 then (if 9223372036854775808 < numV 0 (l.take (cnt isDigit l)) then some (zeroT, 3) else some (⟨2, i, l.take (cnt isDigit l), numV 0 (l.take (cnt isDigit l))⟩, 0)) else none
def signT (l : List UInt8) (i : Nat) : Tk × Nat := match signsL.find? (fun s => startsW s l) with
  | some s => (⟨4, i, s, 0⟩, 0)
  | none => (zeroT, 1)
def nextT (l : List UInt8) (i : Nat) : Option (Tk × Nat) := match l with
  | [] => none
  | b :: _ => if isLetter b then some (wordT l i) else if isDigit b then numT l i else some (signT l i)
/-- All that was there is as it was. -/
def Keep (S S' : St) : Prop := S.next ≤ S'.next ∧ ∀ id, id < S.next → S'.mem.get id = S.mem.get id
theorem Keep.refl (S : St) : Keep S S := ⟨Nat.le_refl _, fun _ _ => rfl⟩
theorem Keep.trans {S S1 S2 : St} (h : Keep S S1) (k : Keep S1 S2) : Keep S S2 := ⟨Nat.le_trans h.1 k.1, fun id hid => (k.2 id (Nat.lt_of_lt_of_le hid h.1)).trans (h.2 id hid)⟩
def St.put (S : St) (id : Nat) (cs : List AV) : St := { S with mem := S.mem.set id (some (.box cs)) }
theorem keep_new (S : St) (cs : List AV) : Keep S (S.newBox cs) := ⟨Nat.le_succ _, fun id hid => by
  show (S.mem.set S.next _).get id = _
  rw [T.get_set, if_neg (by omega)]⟩
theorem keep_put {S S' : St} (h : Keep S S') {id : Nat} (hid : S.next ≤ id) (cs : List AV) : Keep S (S'.put id cs) := ⟨h.1, fun k hk => by
  show (S'.mem.set id _).get k = _
  rw [T.get_set, if_neg (by omega)]; exact h.2 k hk⟩
theorem new_get (S : St) (cs : List AV) : (S.newBox cs).mem.get S.next = some (.box cs) := by
  show (S.mem.set S.next _).get S.next = _
  rw [T.get_set, if_pos rfl]
theorem put_get (S : St) (id : Nat) (cs : List AV) : (S.put id cs).mem.get id = some (.box cs) := by
  show (S.mem.set id _).get id = _
  rw [T.get_set, if_pos rfl]
theorem a68 : isAggT Tryz.prog 205 = some true := by kernel_rfl
theorem s68 : sizeT Tryz.prog 205 = some 4 := by kernel_rfl
theorem st68 {S : St} {id : Nat} {cs ys : List AV} (h : S.mem.get id = some (.box cs)) (hl : cs.length = 4) (hy : ys.length = 4) : oStore Tryz.prog S 205 (.ptr id 0) (.agg ys) = some (S.put id ys) := by
  have h2 : (AV.agg ys).noTup = true := rfl
  simp [oStore, h, s68, h2, AV.cells, hl, hy, St.put, List.drop_eq_nil_of_le]
theorem st68_new (S : St) (cs ys : List AV) (hl : cs.length = 4) (hy : ys.length = 4) : oStore Tryz.prog (S.newBox cs) 205 (.ptr S.next 0) (.agg ys) = some ((S.newBox cs).put S.next ys) := st68 (new_get S cs) hl hy
theorem ld68_put (S : St) (id : Nat) (cs : List AV) (hl : cs.length = 4) : oLoad Tryz.prog (S.put id cs) 205 (.ptr id 0) = some (.agg cs) := by
  have e : cs.take 4 = cs := List.take_of_length_le (by omega)
  simp [oLoad, behind, put_get, a68, s68, hl, e]
theorem al68 (S : St) : oAlloc Tryz.prog S 205 = some (.ptr S.next 0, S.newBox (tokC zeroT)) := rfl
theorem b68_0 : oBuild Tryz.prog 205 [] = some (.agg (tokC zeroT)) := rfl
theorem b68_3 (a b c : AV) (k i : Int) (s : ByteArray) (ha : a = .v (.int .i64 k)) (hb : b = .v (.int .i64 i)) (hc : c = .v (.string s)) : oBuild Tryz.prog 205 [(0, a), (1, b), (2, c)] = some (.agg [a, b, c, u64A 0]) := by
  subst ha; subst hb; subst hc; rfl
theorem b68_4 (k i u : Int) (s : ByteArray) : oBuild Tryz.prog 205 [(0, .v (.int .i64 k)), (1, .v (.int .i64 i)), (2, .v (.string s)), (3, .v (.int .u64 u))] = some (.agg [.v (.int .i64 k), .v (.int .i64 i), .v (.string s), .v (.int .u64 u)]) := rfl
theorem fnOk129 : ∃ fn, E1.F 109 = some fn := Option.isSome_iff_exists.1 (by kernel_rfl)
theorem fnOk132 : ∃ fn, E1.F 222 = some fn := Option.isSome_iff_exists.1 (by kernel_rfl)
theorem fnOk134 : ∃ fn, E1.F 224 = some fn := Option.isSome_iff_exists.1 (by kernel_rfl)
theorem fnOk100 : ∃ fn, E1.F 173 = some fn := Option.isSome_iff_exists.1 (by kernel_rfl)
theorem fnOk102 : ∃ fn, E1.F 175 = some fn := Option.isSome_iff_exists.1 (by kernel_rfl)
theorem fnOk103 : ∃ fn, E1.F 176 = some fn := Option.isSome_iff_exists.1 (by kernel_rfl)
theorem fnOk133 : ∃ fn, E1.F 223 = some fn := Option.isSome_iff_exists.1 (by kernel_rfl)
theorem fnOk65 : ∃ fn, E1.F 98 = some fn := Option.isSome_iff_exists.1 (by kernel_rfl)
theorem fnOk66 : ∃ fn, E1.F 99 = some fn := Option.isSome_iff_exists.1 (by kernel_rfl)
theorem e34_1 : elemT Tryz.prog 33 = some (none, 9) := by kernel_rfl
theorem z9 : zeroA Tryz.prog 9 = some (.v (.string ⟨#[]⟩)) := by kernel_rfl
theorem words_w (S : St) : WC E1 222 [] S (fun r => r = .ret (.sl 1 0 1 (wordsL.map strS)) S) := by
  refine WC_fn Tryz.f222 (by kernel_rfl) (by kernel_rfl) (by kernel_rfl) (show (_ : Nat) ≤ _ from by show (_ : Nat) ≤ _; simp [Tryz.f222]) ?_
  simp only [thenW_normal, thenW_exit, thenW_ret, thenW_pan, W_skip, W_region, W_drawn, W_seq, W_cond, W_block, W_loop, W_exit, W_ret, seqQ_normal, seqQ_exit, seqQ_ret, seqQ_pan, blockW_normal, blockW_ret, blockW_pan, blockW_exit, WL_nil, WL_cons, execL_no, execL_val, execL_skip, execL_enter, execL_pan, putL_none, putL_some, retL_ret, retL_pan, condW_t, condW_f, wantedA, exec1, evalO, initT, T.get_set, T.get_leaf, callA, mapO, ofOpt, ofOptS, ofConst, e1_P, e1_G, partsA, neNil3, finW_ret, finW_pan, giveW, resultsA, tupA, ground_not, notO_bool, fb_lss, fb_leq, fb_gtr, fb_geq, fb_add, fb_eqlI, fb_neqI, Nat.reduceLT, Nat.reduceAdd, Nat.reduceEqDiff, if_true, if_false, reduceIte, true_and, and_true, Option.getD_some, List.getElem?_toArray, List.getElem?_cons_succ, List.getElem?_cons_zero, Option.bind_some, List.nil_append, List.append_nil, beq_self_eq_true, Bool.false_eq_true, Bool.true_eq_false, decide_true, decide_false, Bool.not_true, Bool.not_false, Bool.false_beq, Bool.true_beq, Option.toList, List.head?_cons, List.head?_nil, Tryz.f222]
  have h : ∀ ps, ps = (List.range 25).zip (wordsL.map strS) → oBuildSlice Tryz.prog 33 25 ps = some (.sl 1 0 1 (wordsL.map strS)) := fun ps h => by subst h; kernel_rfl
  rw [h _ (by kernel_rfl)]
  simp only [thenW_normal, thenW_exit, thenW_ret, thenW_pan, W_skip, W_region, W_drawn, W_seq, W_cond, W_block, W_loop, W_exit, W_ret, seqQ_normal, seqQ_exit, seqQ_ret, seqQ_pan, blockW_normal, blockW_ret, blockW_pan, blockW_exit, WL_nil, WL_cons, execL_no, execL_val, execL_skip, execL_enter, execL_pan, putL_none, putL_some, retL_ret, retL_pan, condW_t, condW_f, wantedA, exec1, evalO, initT, T.get_set, T.get_leaf, callA, mapO, ofOpt, ofOptS, ofConst, e1_P, e1_G, partsA, neNil3, finW_ret, finW_pan, giveW, resultsA, tupA, ground_not, notO_bool, fb_lss, fb_leq, fb_gtr, fb_geq, fb_add, fb_eqlI, fb_neqI, Nat.reduceLT, Nat.reduceAdd, Nat.reduceEqDiff, if_true, if_false, reduceIte, true_and, and_true, Option.getD_some, List.getElem?_toArray, List.getElem?_cons_succ, List.getElem?_cons_zero, Option.bind_some, List.nil_append, List.append_nil, beq_self_eq_true, Bool.false_eq_true, Bool.true_eq_false, decide_true, decide_false, Bool.not_true, Bool.not_false, Bool.false_beq, Bool.true_beq, Option.toList, List.head?_cons, List.head?_nil, Tryz.f222]
theorem signs_w (S : St) : WC E1 224 [] S (fun r => r = .ret (.sl 1 0 1 (signsL.map strS)) S) := by
  refine WC_fn Tryz.f224 (by kernel_rfl) (by kernel_rfl) (by kernel_rfl) (show (_ : Nat) ≤ _ from by show (_ : Nat) ≤ _; simp [Tryz.f224]) ?_
  simp only [thenW_normal, thenW_exit, thenW_ret, thenW_pan, W_skip, W_region, W_drawn, W_seq, W_cond, W_block, W_loop, W_exit, W_ret, seqQ_normal, seqQ_exit, seqQ_ret, seqQ_pan, blockW_normal, blockW_ret, blockW_pan, blockW_exit, WL_nil, WL_cons, execL_no, execL_val, execL_skip, execL_enter, execL_pan, putL_none, putL_some, retL_ret, retL_pan, condW_t, condW_f, wantedA, exec1, evalO, initT, T.get_set, T.get_leaf, callA, mapO, ofOpt, ofOptS, ofConst, e1_P, e1_G, partsA, neNil3, finW_ret, finW_pan, giveW, resultsA, tupA, ground_not, notO_bool, fb_lss, fb_leq, fb_gtr, fb_geq, fb_add, fb_eqlI, fb_neqI, Nat.reduceLT, Nat.reduceAdd, Nat.reduceEqDiff, if_true, if_false, reduceIte, true_and, and_true, Option.getD_some, List.getElem?_toArray, List.getElem?_cons_succ, List.getElem?_cons_zero, Option.bind_some, List.nil_append, List.append_nil, beq_self_eq_true, Bool.false_eq_true, Bool.true_eq_false, decide_true, decide_false, Bool.not_true, Bool.not_false, Bool.false_beq, Bool.true_beq, Option.toList, List.head?_cons, List.head?_nil, Tryz.f224]
  have h : ∀ ps, ps = (List.range 16).zip (signsL.map strS) → oBuildSlice Tryz.prog 33 16 ps = some (.sl 1 0 1 (signsL.map strS)) := fun ps h => by subst h; kernel_rfl
  rw [h _ (by kernel_rfl)]
  simp only [thenW_normal, thenW_exit, thenW_ret, thenW_pan, W_skip, W_region, W_drawn, W_seq, W_cond, W_block, W_loop, W_exit, W_ret, seqQ_normal, seqQ_exit, seqQ_ret, seqQ_pan, blockW_normal, blockW_ret, blockW_pan, blockW_exit, WL_nil, WL_cons, execL_no, execL_val, execL_skip, execL_enter, execL_pan, putL_none, putL_some, retL_ret, retL_pan, condW_t, condW_f, wantedA, exec1, evalO, initT, T.get_set, T.get_leaf, callA, mapO, ofOpt, ofOptS, ofConst, e1_P, e1_G, partsA, neNil3, finW_ret, finW_pan, giveW, resultsA, tupA, ground_not, notO_bool, fb_lss, fb_leq, fb_gtr, fb_geq, fb_add, fb_eqlI, fb_neqI, Nat.reduceLT, Nat.reduceAdd, Nat.reduceEqDiff, if_true, if_false, reduceIte, true_and, and_true, Option.getD_some, List.getElem?_toArray, List.getElem?_cons_succ, List.getElem?_cons_zero, Option.bind_some, List.nil_append, List.append_nil, beq_self_eq_true, Bool.false_eq_true, Bool.true_eq_false, decide_true, decide_false, Bool.not_true, Bool.not_false, Bool.false_beq, Bool.true_beq, Option.toList, List.head?_cons, List.head?_nil, Tryz.f224]
theorem digB_eq (b : UInt8) : digB b = isDigit b := rfl
theorem take_all (p : UInt8 → Bool) : ∀ l : List UInt8, (l.take (cnt p l)).all p = true
  | [] => rfl
  | b :: r => by
    unfold cnt
    split
    · rename_i h; rw [List.take_succ_cons, List.all_cons, h, take_all p r]; rfl
    · rfl
theorem parse_w (s : List UInt8) (hn : s ≠ []) (hd : s.all isDigit = true) (h : numV 0 s < 18446744073709551616) (hl : s.length ≤ 100000) (S : St) : WC E1 223 [strS s, .v (.int .i64 10), .v (.int .i64 64)] S (fun r => r = .ret (.tup [u64A (numV 0 s), .v .nilIface]) S) := by
  refine WC_known (g := plainI puI) (by kernel_rfl) ?_
  have hs : (⟨⟨s⟩⟩ : ByteArray).size = s.length := rfl
  have hc : s ≠ [] ∧ s.all digB = true ∧ numV 0 s < 18446744073709551616 ∧ (⟨⟨s⟩⟩ : ByteArray).size ≤ 9223372036854775806 := ⟨hn, hd, h, by rw [hs]; omega⟩
  have e : puI [strS s, .v (.int .i64 10), .v (.int .i64 64)] = some (.tup [u64A (numV 0 s), .v .nilIface]) := by
    show (if s ≠ [] ∧ s.all digB = true ∧ numV 0 s < 18446744073709551616 ∧ (⟨⟨s⟩⟩ : ByteArray).size ≤ 9223372036854775806 then _ else _) = _
    rw [if_pos hc]; rfl
  simp only [plainI, e]
/-- What one of the three answers. -/
def TokRet (S : St) (p : Tk × Nat) (r : R) : Prop := ∃ S', r = .ret (.tup [tokA p.1, intA p.2]) S' ∧ Keep S S'
theorem word_w (l : List UInt8) (hl : l.length ≤ 100000) (i : Nat) (hi : i ≤ l.length) (S : St) : WC E1 173 [strS l, intA i] S (TokRet S (wordT (l.drop i) i)) := by
  refine WC_fn Tryz.f173 (by kernel_rfl) (by kernel_rfl) (by kernel_rfl) (show (_ : Nat) ≤ _ from by show (_ : Nat) ≤ _; simp [Tryz.f173]) ?_
  obtain ⟨fn1, hf1⟩ := fnOk96
  obtain ⟨fn2, hf2⟩ := fnOk129
  obtain ⟨fn3, hf3⟩ := fnOk132
  have hc := cnt_le isWordB (l.drop i)
  rw [List.length_drop] at hc
  have hs := sl9_both l i (i + cnt isWordB (l.drop i)) (by omega) (by omega)
  rw [Nat.add_sub_cancel_left] at hs
  have hL := fun S => len9 S ((l.drop i).take (cnt isWordB (l.drop i)))
  have hlen : ((l.drop i).take (cnt isWordB (l.drop i))).length = cnt isWordB (l.drop i) := by rw [List.length_take, List.length_drop]; omega
  rw [hlen] at hL
  simp only [strS, intA]
  simp only [thenW_normal, thenW_exit, thenW_ret, thenW_pan, W_skip, W_region, W_drawn, W_seq, W_cond, W_block, W_loop, W_exit, W_ret, seqQ_normal, seqQ_exit, seqQ_ret, seqQ_pan, blockW_normal, blockW_ret, blockW_pan, blockW_exit, WL_nil, WL_cons, execL_no, execL_val, execL_skip, execL_enter, execL_pan, putL_none, putL_some, retL_ret, retL_pan, condW_t, condW_f, wantedA, exec1, evalO, initT, T.get_set, T.get_leaf, callA, mapO, ofOpt, ofOptS, ofConst, e1_P, e1_G, partsA, neNil3, finW_ret, finW_pan, giveW, resultsA, tupA, ground_not, notO_bool, fb_lss, fb_leq, fb_gtr, fb_geq, fb_add, fb_eqlI, fb_neqI, Nat.reduceLT, Nat.reduceAdd, Nat.reduceEqDiff, if_true, if_false, reduceIte, true_and, and_true, Option.getD_some, List.getElem?_toArray, List.getElem?_cons_succ, List.getElem?_cons_zero, Option.bind_some, List.nil_append, List.append_nil, beq_self_eq_true, Bool.false_eq_true, Bool.true_eq_false, decide_true, decide_false, Bool.not_true, Bool.not_false, Bool.false_beq, Bool.true_beq, Option.toList, List.head?_cons, List.head?_nil, Tryz.f173, al68, hf1, hf2, hf3]
  refine WC.mono (behind_w wordBT l hl i hi _) ?_
  rintro _ rfl
  simp only [intA]
  simp only [thenW_normal, thenW_exit, thenW_ret, thenW_pan, W_skip, W_region, W_drawn, W_seq, W_cond, W_block, W_loop, W_exit, W_ret, seqQ_normal, seqQ_exit, seqQ_ret, seqQ_pan, blockW_normal, blockW_ret, blockW_pan, blockW_exit, WL_nil, WL_cons, execL_no, execL_val, execL_skip, execL_enter, execL_pan, putL_none, putL_some, retL_ret, retL_pan, condW_t, condW_f, wantedA, exec1, evalO, initT, T.get_set, T.get_leaf, callA, mapO, ofOpt, ofOptS, ofConst, e1_P, e1_G, partsA, neNil3, finW_ret, finW_pan, giveW, resultsA, tupA, ground_not, notO_bool, fb_lss, fb_leq, fb_gtr, fb_geq, fb_add, fb_eqlI, fb_neqI, Nat.reduceLT, Nat.reduceAdd, Nat.reduceEqDiff, if_true, if_false, reduceIte, true_and, and_true, Option.getD_some, List.getElem?_toArray, List.getElem?_cons_succ, List.getElem?_cons_zero, Option.bind_some, List.nil_append, List.append_nil, beq_self_eq_true, Bool.false_eq_true, Bool.true_eq_false, decide_true, decide_false, Bool.not_true, Bool.not_false, Bool.false_beq, Bool.true_beq, Option.toList, List.head?_cons, List.head?_nil, Tryz.f173, al68, hf1, hf2, hf3, hs]
  refine WC.mono (words_w _) ?_
  rintro _ rfl
  simp only [thenW_normal, thenW_exit, thenW_ret, thenW_pan, W_skip, W_region, W_drawn, W_seq, W_cond, W_block, W_loop, W_exit, W_ret, seqQ_normal, seqQ_exit, seqQ_ret, seqQ_pan, blockW_normal, blockW_ret, blockW_pan, blockW_exit, WL_nil, WL_cons, execL_no, execL_val, execL_skip, execL_enter, execL_pan, putL_none, putL_some, retL_ret, retL_pan, condW_t, condW_f, wantedA, exec1, evalO, initT, T.get_set, T.get_leaf, callA, mapO, ofOpt, ofOptS, ofConst, e1_P, e1_G, partsA, neNil3, finW_ret, finW_pan, giveW, resultsA, tupA, ground_not, notO_bool, fb_lss, fb_leq, fb_gtr, fb_geq, fb_add, fb_eqlI, fb_neqI, Nat.reduceLT, Nat.reduceAdd, Nat.reduceEqDiff, if_true, if_false, reduceIte, true_and, and_true, Option.getD_some, List.getElem?_toArray, List.getElem?_cons_succ, List.getElem?_cons_zero, Option.bind_some, List.nil_append, List.append_nil, beq_self_eq_true, Bool.false_eq_true, Bool.true_eq_false, decide_true, decide_false, Bool.not_true, Bool.not_false, Bool.false_beq, Bool.true_beq, Option.toList, List.head?_cons, List.head?_nil, Tryz.f173, al68, hf1, hf2, hf3, hs]
  refine WC.mono (contains_w 1 0 wordsL ((l.drop i).take (cnt isWordB (l.drop i))) (by decide) _) ?_
  rintro _ rfl
  have hst : ∀ ys : List AV, ys.length = 4 → oStore Tryz.prog (S.newBox (tokC zeroT)) 205 (.ptr S.next 0) (.agg ys) = some ((S.newBox (tokC zeroT)).put S.next ys) := fun ys hy => st68_new S _ ys rfl hy
  have keep : ∀ ys, Keep S ((S.newBox (tokC zeroT)).put S.next ys) := fun ys => keep_put (keep_new S _) (Nat.le_refl _) ys
  by_cases hm : (l.drop i).take (cnt isWordB (l.drop i)) ∈ wordsL
  · have e : wordT (l.drop i) i = (⟨3, i, (l.drop i).take (cnt isWordB (l.drop i)), 0⟩, 0) := by unfold wordT; rw [if_pos hm]
    rw [decide_eq_true hm]
    have hb := b68_3 _ _ _ 3 i ⟨⟨(l.drop i).take (cnt isWordB (l.drop i))⟩⟩ rfl rfl rfl
    have h1 := hst [.v (.int .i64 3), .v (.int .i64 i), .v (.string ⟨⟨(l.drop i).take (cnt isWordB (l.drop i))⟩⟩), u64A 0] rfl
    have h2 := ld68_put (S.newBox (tokC zeroT)) S.next [.v (.int .i64 3), .v (.int .i64 i), .v (.string ⟨⟨(l.drop i).take (cnt isWordB (l.drop i))⟩⟩), u64A 0] rfl
    simp only [thenW_normal, thenW_exit, thenW_ret, thenW_pan, W_skip, W_region, W_drawn, W_seq, W_cond, W_block, W_loop, W_exit, W_ret, seqQ_normal, seqQ_exit, seqQ_ret, seqQ_pan, blockW_normal, blockW_ret, blockW_pan, blockW_exit, WL_nil, WL_cons, execL_no, execL_val, execL_skip, execL_enter, execL_pan, putL_none, putL_some, retL_ret, retL_pan, condW_t, condW_f, wantedA, exec1, evalO, initT, T.get_set, T.get_leaf, callA, mapO, ofOpt, ofOptS, ofConst, e1_P, e1_G, partsA, neNil3, finW_ret, finW_pan, giveW, resultsA, tupA, ground_not, notO_bool, fb_lss, fb_leq, fb_gtr, fb_geq, fb_add, fb_eqlI, fb_neqI, Nat.reduceLT, Nat.reduceAdd, Nat.reduceEqDiff, if_true, if_false, reduceIte, true_and, and_true, Option.getD_some, List.getElem?_toArray, List.getElem?_cons_succ, List.getElem?_cons_zero, Option.bind_some, List.nil_append, List.append_nil, beq_self_eq_true, Bool.false_eq_true, Bool.true_eq_false, decide_true, decide_false, Bool.not_true, Bool.not_false, Bool.false_beq, Bool.true_beq, Option.toList, List.head?_cons, List.head?_nil, Tryz.f173, hb, h1, h2]
    rw [e]
    exact ⟨_, rfl, keep _⟩
  · rw [decide_eq_false hm]
    by_cases h30 : 30 < cnt isWordB (l.drop i)
    · have e : wordT (l.drop i) i = (zeroT, 3) := by unfold wordT; rw [if_neg hm, if_pos h30]
      have hg : ((cnt isWordB (l.drop i) : Nat) : Int) > 30 := by omega
      have h1 := hst (tokC zeroT) rfl
      have h2 := ld68_put (S.newBox (tokC zeroT)) S.next (tokC zeroT) rfl
      simp only [thenW_normal, thenW_exit, thenW_ret, thenW_pan, W_skip, W_region, W_drawn, W_seq, W_cond, W_block, W_loop, W_exit, W_ret, seqQ_normal, seqQ_exit, seqQ_ret, seqQ_pan, blockW_normal, blockW_ret, blockW_pan, blockW_exit, WL_nil, WL_cons, execL_no, execL_val, execL_skip, execL_enter, execL_pan, putL_none, putL_some, retL_ret, retL_pan, condW_t, condW_f, wantedA, exec1, evalO, initT, T.get_set, T.get_leaf, callA, mapO, ofOpt, ofOptS, ofConst, e1_P, e1_G, partsA, neNil3, finW_ret, finW_pan, giveW, resultsA, tupA, ground_not, notO_bool, fb_lss, fb_leq, fb_gtr, fb_geq, fb_add, fb_eqlI, fb_neqI, Nat.reduceLT, Nat.reduceAdd, Nat.reduceEqDiff, if_true, if_false, reduceIte, true_and, and_true, Option.getD_some, List.getElem?_toArray, List.getElem?_cons_succ, List.getElem?_cons_zero, Option.bind_some, List.nil_append, List.append_nil, beq_self_eq_true, Bool.false_eq_true, Bool.true_eq_false, decide_true, decide_false, Bool.not_true, Bool.not_false, Bool.false_beq, Bool.true_beq, Option.toList, List.head?_cons, List.head?_nil, Tryz.f173, hL, hg, b68_0, h1, h2]
      rw [e]
      exact ⟨_, rfl, keep _⟩
    · have e : wordT (l.drop i) i = (⟨1, i, (l.drop i).take (cnt isWordB (l.drop i)), 0⟩, 0) := by unfold wordT; rw [if_neg hm, if_neg h30]
      have hg : ¬ ((cnt isWordB (l.drop i) : Nat) : Int) > 30 := by omega
      have hb := b68_3 _ _ _ 1 i ⟨⟨(l.drop i).take (cnt isWordB (l.drop i))⟩⟩ rfl rfl rfl
      have h1 := hst [.v (.int .i64 1), .v (.int .i64 i), .v (.string ⟨⟨(l.drop i).take (cnt isWordB (l.drop i))⟩⟩), u64A 0] rfl
      have h2 := ld68_put (S.newBox (tokC zeroT)) S.next [.v (.int .i64 1), .v (.int .i64 i), .v (.string ⟨⟨(l.drop i).take (cnt isWordB (l.drop i))⟩⟩), u64A 0] rfl
      simp only [thenW_normal, thenW_exit, thenW_ret, thenW_pan, W_skip, W_region, W_drawn, W_seq, W_cond, W_block, W_loop, W_exit, W_ret, seqQ_normal, seqQ_exit, seqQ_ret, seqQ_pan, blockW_normal, blockW_ret, blockW_pan, blockW_exit, WL_nil, WL_cons, execL_no, execL_val, execL_skip, execL_enter, execL_pan, putL_none, putL_some, retL_ret, retL_pan, condW_t, condW_f, wantedA, exec1, evalO, initT, T.get_set, T.get_leaf, callA, mapO, ofOpt, ofOptS, ofConst, e1_P, e1_G, partsA, neNil3, finW_ret, finW_pan, giveW, resultsA, tupA, ground_not, notO_bool, fb_lss, fb_leq, fb_gtr, fb_geq, fb_add, fb_eqlI, fb_neqI, Nat.reduceLT, Nat.reduceAdd, Nat.reduceEqDiff, if_true, if_false, reduceIte, true_and, and_true, Option.getD_some, List.getElem?_toArray, List.getElem?_cons_succ, List.getElem?_cons_zero, Option.bind_some, List.nil_append, List.append_nil, beq_self_eq_true, Bool.false_eq_true, Bool.true_eq_false, decide_true, decide_false, Bool.not_true, Bool.not_false, Bool.false_beq, Bool.true_beq, Option.toList, List.head?_cons, List.head?_nil, Tryz.f173, hL, hg, hb, h1, h2]
      rw [e]
      exact ⟨_, rfl, keep _⟩
end Go.Ax
