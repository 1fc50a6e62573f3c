/-
  Numbers and signs; the next token: reasoned over.
-/
import Derived.Test.YtgnohckncmhodaaGreatDoorClG10
set_option linter.unusedVariables false
set_option linter.unusedSimpArgs false
set_option maxHeartbeats 16000000
noncomputable section
namespace Go.Ax
open Go.RowKit Go.Proofs
set_option linter.unusedVariables false
set_option linter.unusedSimpArgs false
set_option maxRecDepth 100000
theorem neNil66 (a b : AV) : neNil Tryz.prog 203 a b = false := by
  have h : Tryz.prog.underlying 203 = some (.int .u64) := rfl
  unfold neNil; rw [h]
theorem neNil110 : neNil Tryz.prog 328 (.v .nilIface) (.v .nilIface) = false := by kernel_rfl
def nilO (r : OR) (S : St) (x : Option AV) : OR := match x with
  | some (.v .nilIface) => .val (.v (.bool false)) S
  | _ => r
def eqOrX (P : Program) (G : Gl) (f : T AV) (S : St) (o : Oper) (op : BinOp) (t : TypeId) (a b : AV) : OR := eqOr P G f S o op t a b
theorem eqOr110 (f : T AV) (S : St) (k : Nat) (dst : Option Tmp) (ty : TypeId) (pos : String) (af : Array Edge) (gd : Option (Nat × Bool)) :
    eqOr Tryz.prog (fun _ => none) f S { dst := dst, op := .binOp .neq 328 (.tmp k) (.const .nilIface) 328, type := ty, pos := pos, after := af, guard := gd } .neq 328 (.v .nilIface) (.v .nilIface) =
    nilO (eqOrX Tryz.prog (fun _ => none) f S { dst := dst, op := .binOp .neq 328 (.tmp k) (.const .nilIface) 328, type := ty, pos := pos, after := af, guard := gd } .neq 328 (.v .nilIface) (.v .nilIface)) S (f.get k) := by
  unfold nilO
  split
  · rename_i hf
    have h0 : fastEq Tryz.prog .neq 328 (.v .nilIface) (.v .nilIface) = none := by kernel_rfl
    unfold eqOr
    rw [h0]
    have hg : groundO (fun _ => none) f (.tmp k) = some .nilIface := by unfold groundO; simp only [evalO, hf]; rfl
    have hc : groundO (fun _ => none) f (.const .nilIface) = some .nilIface := rfl
    unfold ground
    simp only [Op.operands, List.all_cons, List.all_nil, hg, hc, Option.isSome_some, Bool.and_self, if_true]
    have e : execOp (fun x => (groundO (fun _ => none) f x).getD undef) { dst := dst, op := .binOp .neq 328 (.tmp k) (.const .nilIface) 328, type := ty, pos := pos, after := af, guard := gd } = execOp (fun _ => .nilIface) { dst := none, op := .binOp .neq 328 (.tmp 29) (.const .nilIface) 328, type := 4, pos := "", after := #[], guard := none } := by
      simp only [execOp, hg, hc, Option.getD_some]
      rfl
    rw [e]
    have e3 : (pureN Tryz.prog 4000 (execOp (fun _ => Value.nilIface) { dst := none, op := .binOp .neq 328 (.tmp 29) (.const .nilIface) 328, type := 4, pos := "", after := #[], guard := none })) = some (.bool false) := by kernel_rfl
    rw [e3]; rfl
  · rfl
theorem nilO_nil (r : OR) (S : St) : nilO r S (some (.v .nilIface)) = .val (.v (.bool false)) S := rfl
theorem fbNil : fastBin .neq (.v .nilIface) (.v .nilIface) = none := rfl
theorem head_drop (l : List UInt8) (i : Nat) (h : i < l.length) : (l.drop i).head? = some l[i] := by rw [List.drop_eq_getElem_cons h]; rfl
theorem number_w (l : List UInt8) (hl : l.length ≤ 100000) (i : Nat) (hi : i < l.length) (hd : isDigit l[i] = true) (S : St) (p : Tk × Nat) (hp : numT (l.drop i) i = some p) : WC E1 175 [strS l, intA i] S (TokRet S p) := by
  refine WC_fn Tryz.f175 (by kernel_rfl) (by kernel_rfl) (by kernel_rfl) (show (_ : Nat) ≤ _ from by show (_ : Nat) ≤ _; simp [Tryz.f175]) ?_
  obtain ⟨fn1, hf1⟩ := fnOk96
  obtain ⟨fn2, hf2⟩ := fnOk133
  have hc := cnt_le isDigit (l.drop i)
  rw [List.length_drop] at hc
  have hc1 : 1 ≤ cnt isDigit (l.drop i) := by rw [List.drop_eq_getElem_cons hi, cnt, if_pos hd]; omega
  have hs := sl9_both l i (i + cnt isDigit (l.drop i)) (by omega) (by omega)
  rw [Nat.add_sub_cancel_left] at hs
  have hL := fun S => len9 S ((l.drop i).take (cnt isDigit (l.drop i)))
  have hlen : ((l.drop i).take (cnt isDigit (l.drop i))).length = cnt isDigit (l.drop i) := by rw [List.length_take, List.length_drop]; omega
  rw [hlen] at hL
  have h00 : ((l.drop i).take (cnt isDigit (l.drop i)))[0]'(by omega) = l[i] := by simp
  have hx := idx9 ((l.drop i).take (cnt isDigit (l.drop i))) 0 (by omega)
  rw [h00] at hx
  simp only [Int.ofNat_eq_natCast, Int.cast_ofNat_Int] at hx
  have hst : ∀ ys : List AV, ys.length = 4 → oStore Tryz.prog (S.newBox (tokC zeroT)) 205 (.ptr S.next 0) (.agg ys) = some ((S.newBox (tokC zeroT)).put S.next ys) := fun ys hy => st68_new S _ ys rfl hy
  have keep : ∀ ys, Keep S ((S.newBox (tokC zeroT)).put S.next ys) := fun ys => keep_put (keep_new S _) (Nat.le_refl _) ys
  have z1 := hst (tokC zeroT) rfl
  have z2 := ld68_put (S.newBox (tokC zeroT)) S.next (tokC zeroT) rfl
  simp only [strS, intA]
  simp only [thenW_normal, thenW_exit, thenW_ret, thenW_pan, W_skip, W_region, W_drawn, W_seq, W_cond, W_block, W_loop, W_exit, W_ret, seqQ_normal, seqQ_exit, seqQ_ret, seqQ_pan, blockW_normal, blockW_ret, blockW_pan, blockW_exit, WL_nil, WL_cons, execL_no, execL_val, execL_skip, execL_enter, execL_pan, putL_none, putL_some, retL_ret, retL_pan, condW_t, condW_f, wantedA, exec1, evalO, initT, T.get_set, T.get_leaf, callA, mapO, ofOpt, ofOptS, ofConst, e1_P, e1_G, partsA, neNil3, finW_ret, finW_pan, giveW, resultsA, tupA, ground_not, notO_bool, fb_lss, fb_leq, fb_gtr, fb_geq, fb_add, fb_eqlI, fb_neqI, Nat.reduceLT, Nat.reduceAdd, Nat.reduceEqDiff, if_true, if_false, reduceIte, true_and, and_true, Option.getD_some, List.getElem?_toArray, List.getElem?_cons_succ, List.getElem?_cons_zero, Option.bind_some, List.nil_append, List.append_nil, beq_self_eq_true, Bool.false_eq_true, Bool.true_eq_false, decide_true, decide_false, Bool.not_true, Bool.not_false, Bool.false_beq, Bool.true_beq, Option.toList, List.head?_cons, List.head?_nil, Tryz.f175, al68, hf1, hf2]
  refine WC.mono (behind_w digitT l hl i (by omega) _) ?_
  rintro _ rfl
  simp only [intA]
  have h48 : (((l[i].toNat : Nat) : Int) == 48) = decide (l[i] = 48) := by
    rw [Bool.eq_iff_iff]; simp only [beq_iff_eq, decide_eq_true_iff]
    constructor
    · intro h; exact UInt8.toNat_inj.1 (by show l[i].toNat = 48; omega)
    · intro h; rw [h]; rfl
  unfold numT at hp
  rw [head_drop l i hi] at hp
  by_cases hz : 1 < cnt isDigit (l.drop i) ∧ l[i] = 48
  · rw [if_pos ⟨hz.1, by rw [hz.2]⟩] at hp
    injection hp with hp; subst hp
    have hg : ((cnt isDigit (l.drop i) : Nat) : Int) > 1 := by omega
    rw [decide_eq_true hz.2] at h48
    simp only [thenW_normal, thenW_exit, thenW_ret, thenW_pan, W_skip, W_region, W_drawn, W_seq, W_cond, W_block, W_loop, W_exit, W_ret, seqQ_normal, seqQ_exit, seqQ_ret, seqQ_pan, blockW_normal, blockW_ret, blockW_pan, blockW_exit, WL_nil, WL_cons, execL_no, execL_val, execL_skip, execL_enter, execL_pan, putL_none, putL_some, retL_ret, retL_pan, condW_t, condW_f, wantedA, exec1, evalO, initT, T.get_set, T.get_leaf, callA, mapO, ofOpt, ofOptS, ofConst, e1_P, e1_G, partsA, neNil3, finW_ret, finW_pan, giveW, resultsA, tupA, ground_not, notO_bool, fb_lss, fb_leq, fb_gtr, fb_geq, fb_add, fb_eqlI, fb_neqI, Nat.reduceLT, Nat.reduceAdd, Nat.reduceEqDiff, if_true, if_false, reduceIte, true_and, and_true, Option.getD_some, List.getElem?_toArray, List.getElem?_cons_succ, List.getElem?_cons_zero, Option.bind_some, List.nil_append, List.append_nil, beq_self_eq_true, Bool.false_eq_true, Bool.true_eq_false, decide_true, decide_false, Bool.not_true, Bool.not_false, Bool.false_beq, Bool.true_beq, Option.toList, List.head?_cons, List.head?_nil, Tryz.f175, al68, hf1, hf2, hs, hL, hg, hx, byteA, neNil5, h48, b68_0, z1, z2]
    exact ⟨_, rfl, keep _⟩
  · rw [if_neg (fun h => hz ⟨h.1, by have := h.2; injection this⟩)] at hp
    split at hp
    case isFalse => cases hp
    rename_i hv
    have hpw := fun S => parse_w ((l.drop i).take (cnt isDigit (l.drop i))) (by intro e; rw [e] at hlen; simp at hlen; omega) (take_all _ _) hv (by omega) S
    unfold strS u64A at hpw
    by_cases hg : ((cnt isDigit (l.drop i) : Nat) : Int) > 1
    · have h1 : ¬ l[i] = 48 := fun e => hz ⟨by omega, e⟩
      rw [decide_eq_false h1] at h48
      simp only [thenW_normal, thenW_exit, thenW_ret, thenW_pan, W_skip, W_region, W_drawn, W_seq, W_cond, W_block, W_loop, W_exit, W_ret, seqQ_normal, seqQ_exit, seqQ_ret, seqQ_pan, blockW_normal, blockW_ret, blockW_pan, blockW_exit, WL_nil, WL_cons, execL_no, execL_val, execL_skip, execL_enter, execL_pan, putL_none, putL_some, retL_ret, retL_pan, condW_t, condW_f, wantedA, exec1, evalO, initT, T.get_set, T.get_leaf, callA, mapO, ofOpt, ofOptS, ofConst, e1_P, e1_G, partsA, neNil3, finW_ret, finW_pan, giveW, resultsA, tupA, ground_not, notO_bool, fb_lss, fb_leq, fb_gtr, fb_geq, fb_add, fb_eqlI, fb_neqI, Nat.reduceLT, Nat.reduceAdd, Nat.reduceEqDiff, if_true, if_false, reduceIte, true_and, and_true, Option.getD_some, List.getElem?_toArray, List.getElem?_cons_succ, List.getElem?_cons_zero, Option.bind_some, List.nil_append, List.append_nil, beq_self_eq_true, Bool.false_eq_true, Bool.true_eq_false, decide_true, decide_false, Bool.not_true, Bool.not_false, Bool.false_beq, Bool.true_beq, Option.toList, List.head?_cons, List.head?_nil, Tryz.f175, al68, hf1, hf2, hs, hL, hg, hx, byteA, neNil5, h48]
      refine WC.mono (hpw _) ?_
      rintro _ rfl
      by_cases hb : ((numV 0 ((l.drop i).take (cnt isDigit (l.drop i))) : Nat) : Int) > 9223372036854775808
      · rw [if_pos (show 9223372036854775808 < numV 0 ((l.drop i).take (cnt isDigit (l.drop i))) by omega)] at hp
        injection hp with hp; subst hp
        simp only [thenW_normal, thenW_exit, thenW_ret, thenW_pan, W_skip, W_region, W_drawn, W_seq, W_cond, W_block, W_loop, W_exit, W_ret, seqQ_normal, seqQ_exit, seqQ_ret, seqQ_pan, blockW_normal, blockW_ret, blockW_pan, blockW_exit, WL_nil, WL_cons, execL_no, execL_val, execL_skip, execL_enter, execL_pan, putL_none, putL_some, retL_ret, retL_pan, condW_t, condW_f, wantedA, exec1, evalO, initT, T.get_set, T.get_leaf, callA, mapO, ofOpt, ofOptS, ofConst, e1_P, e1_G, partsA, neNil3, finW_ret, finW_pan, giveW, resultsA, tupA, ground_not, notO_bool, fb_lss, fb_leq, fb_gtr, fb_geq, fb_add, fb_eqlI, fb_neqI, Nat.reduceLT, Nat.reduceAdd, Nat.reduceEqDiff, if_true, if_false, reduceIte, true_and, and_true, Option.getD_some, List.getElem?_toArray, List.getElem?_cons_succ, List.getElem?_cons_zero, Option.bind_some, List.nil_append, List.append_nil, beq_self_eq_true, Bool.false_eq_true, Bool.true_eq_false, decide_true, decide_false, Bool.not_true, Bool.not_false, Bool.false_beq, Bool.true_beq, Option.toList, List.head?_cons, List.head?_nil, Tryz.f175, neNil66, eqOr110, nilO_nil, oExtract, neNil110, fbNil, List.getElem?_cons_succ, List.getElem?_cons_zero, hb, b68_0, z1, z2]
        exact ⟨_, rfl, keep _⟩
      · rw [if_neg (show ¬ 9223372036854775808 < numV 0 ((l.drop i).take (cnt isDigit (l.drop i))) by omega)] at hp
        injection hp with hp; subst hp
        have q1 := hst [.v (.int .i64 2), .v (.int .i64 i), .v (.string ⟨⟨(l.drop i).take (cnt isDigit (l.drop i))⟩⟩), .v (.int .u64 (numV 0 ((l.drop i).take (cnt isDigit (l.drop i))) : Nat))] rfl
        have q2 := ld68_put (S.newBox (tokC zeroT)) S.next [.v (.int .i64 2), .v (.int .i64 i), .v (.string ⟨⟨(l.drop i).take (cnt isDigit (l.drop i))⟩⟩), .v (.int .u64 (numV 0 ((l.drop i).take (cnt isDigit (l.drop i))) : Nat))] rfl
        simp only [thenW_normal, thenW_exit, thenW_ret, thenW_pan, W_skip, W_region, W_drawn, W_seq, W_cond, W_block, W_loop, W_exit, W_ret, seqQ_normal, seqQ_exit, seqQ_ret, seqQ_pan, blockW_normal, blockW_ret, blockW_pan, blockW_exit, WL_nil, WL_cons, execL_no, execL_val, execL_skip, execL_enter, execL_pan, putL_none, putL_some, retL_ret, retL_pan, condW_t, condW_f, wantedA, exec1, evalO, initT, T.get_set, T.get_leaf, callA, mapO, ofOpt, ofOptS, ofConst, e1_P, e1_G, partsA, neNil3, finW_ret, finW_pan, giveW, resultsA, tupA, ground_not, notO_bool, fb_lss, fb_leq, fb_gtr, fb_geq, fb_add, fb_eqlI, fb_neqI, Nat.reduceLT, Nat.reduceAdd, Nat.reduceEqDiff, if_true, if_false, reduceIte, true_and, and_true, Option.getD_some, List.getElem?_toArray, List.getElem?_cons_succ, List.getElem?_cons_zero, Option.bind_some, List.nil_append, List.append_nil, beq_self_eq_true, Bool.false_eq_true, Bool.true_eq_false, decide_true, decide_false, Bool.not_true, Bool.not_false, Bool.false_beq, Bool.true_beq, Option.toList, List.head?_cons, List.head?_nil, Tryz.f175, neNil66, eqOr110, nilO_nil, oExtract, neNil110, fbNil, List.getElem?_cons_succ, List.getElem?_cons_zero, hb, b68_4, q1, q2]
        exact ⟨_, rfl, keep _⟩
    · simp only [thenW_normal, thenW_exit, thenW_ret, thenW_pan, W_skip, W_region, W_drawn, W_seq, W_cond, W_block, W_loop, W_exit, W_ret, seqQ_normal, seqQ_exit, seqQ_ret, seqQ_pan, blockW_normal, blockW_ret, blockW_pan, blockW_exit, WL_nil, WL_cons, execL_no, execL_val, execL_skip, execL_enter, execL_pan, putL_none, putL_some, retL_ret, retL_pan, condW_t, condW_f, wantedA, exec1, evalO, initT, T.get_set, T.get_leaf, callA, mapO, ofOpt, ofOptS, ofConst, e1_P, e1_G, partsA, neNil3, finW_ret, finW_pan, giveW, resultsA, tupA, ground_not, notO_bool, fb_lss, fb_leq, fb_gtr, fb_geq, fb_add, fb_eqlI, fb_neqI, Nat.reduceLT, Nat.reduceAdd, Nat.reduceEqDiff, if_true, if_false, reduceIte, true_and, and_true, Option.getD_some, List.getElem?_toArray, List.getElem?_cons_succ, List.getElem?_cons_zero, Option.bind_some, List.nil_append, List.append_nil, beq_self_eq_true, Bool.false_eq_true, Bool.true_eq_false, decide_true, decide_false, Bool.not_true, Bool.not_false, Bool.false_beq, Bool.true_beq, Option.toList, List.head?_cons, List.head?_nil, Tryz.f175, al68, hf1, hf2, hs, hL, hg]
      refine WC.mono (hpw _) ?_
      rintro _ rfl
      by_cases hb : ((numV 0 ((l.drop i).take (cnt isDigit (l.drop i))) : Nat) : Int) > 9223372036854775808
      · rw [if_pos (show 9223372036854775808 < numV 0 ((l.drop i).take (cnt isDigit (l.drop i))) by omega)] at hp
        injection hp with hp; subst hp
        simp only [thenW_normal, thenW_exit, thenW_ret, thenW_pan, W_skip, W_region, W_drawn, W_seq, W_cond, W_block, W_loop, W_exit, W_ret, seqQ_normal, seqQ_exit, seqQ_ret, seqQ_pan, blockW_normal, blockW_ret, blockW_pan, blockW_exit, WL_nil, WL_cons, execL_no, execL_val, execL_skip, execL_enter, execL_pan, putL_none, putL_some, retL_ret, retL_pan, condW_t, condW_f, wantedA, exec1, evalO, initT, T.get_set, T.get_leaf, callA, mapO, ofOpt, ofOptS, ofConst, e1_P, e1_G, partsA, neNil3, finW_ret, finW_pan, giveW, resultsA, tupA, ground_not, notO_bool, fb_lss, fb_leq, fb_gtr, fb_geq, fb_add, fb_eqlI, fb_neqI, Nat.reduceLT, Nat.reduceAdd, Nat.reduceEqDiff, if_true, if_false, reduceIte, true_and, and_true, Option.getD_some, List.getElem?_toArray, List.getElem?_cons_succ, List.getElem?_cons_zero, Option.bind_some, List.nil_append, List.append_nil, beq_self_eq_true, Bool.false_eq_true, Bool.true_eq_false, decide_true, decide_false, Bool.not_true, Bool.not_false, Bool.false_beq, Bool.true_beq, Option.toList, List.head?_cons, List.head?_nil, Tryz.f175, neNil66, eqOr110, nilO_nil, oExtract, neNil110, fbNil, List.getElem?_cons_succ, List.getElem?_cons_zero, hb, b68_0, z1, z2]
        exact ⟨_, rfl, keep _⟩
      · rw [if_neg (show ¬ 9223372036854775808 < numV 0 ((l.drop i).take (cnt isDigit (l.drop i))) by omega)] at hp
        injection hp with hp; subst hp
        have q1 := hst [.v (.int .i64 2), .v (.int .i64 i), .v (.string ⟨⟨(l.drop i).take (cnt isDigit (l.drop i))⟩⟩), .v (.int .u64 (numV 0 ((l.drop i).take (cnt isDigit (l.drop i))) : Nat))] rfl
        have q2 := ld68_put (S.newBox (tokC zeroT)) S.next [.v (.int .i64 2), .v (.int .i64 i), .v (.string ⟨⟨(l.drop i).take (cnt isDigit (l.drop i))⟩⟩), .v (.int .u64 (numV 0 ((l.drop i).take (cnt isDigit (l.drop i))) : Nat))] rfl
        simp only [thenW_normal, thenW_exit, thenW_ret, thenW_pan, W_skip, W_region, W_drawn, W_seq, W_cond, W_block, W_loop, W_exit, W_ret, seqQ_normal, seqQ_exit, seqQ_ret, seqQ_pan, blockW_normal, blockW_ret, blockW_pan, blockW_exit, WL_nil, WL_cons, execL_no, execL_val, execL_skip, execL_enter, execL_pan, putL_none, putL_some, retL_ret, retL_pan, condW_t, condW_f, wantedA, exec1, evalO, initT, T.get_set, T.get_leaf, callA, mapO, ofOpt, ofOptS, ofConst, e1_P, e1_G, partsA, neNil3, finW_ret, finW_pan, giveW, resultsA, tupA, ground_not, notO_bool, fb_lss, fb_leq, fb_gtr, fb_geq, fb_add, fb_eqlI, fb_neqI, Nat.reduceLT, Nat.reduceAdd, Nat.reduceEqDiff, if_true, if_false, reduceIte, true_and, and_true, Option.getD_some, List.getElem?_toArray, List.getElem?_cons_succ, List.getElem?_cons_zero, Option.bind_some, List.nil_append, List.append_nil, beq_self_eq_true, Bool.false_eq_true, Bool.true_eq_false, decide_true, decide_false, Bool.not_true, Bool.not_false, Bool.false_beq, Bool.true_beq, Option.toList, List.head?_cons, List.head?_nil, Tryz.f175, neNil66, eqOr110, nilO_nil, oExtract, neNil110, fbNil, List.getElem?_cons_succ, List.getElem?_cons_zero, hb, b68_4, q1, q2]
        exact ⟨_, rfl, keep _⟩
def signBody : Code := match Tryz.f176.body with
  | some (.seq _ (.seq (.seq _ (.block _ (.loop c))) _)) => c
  | _ => .skip
theorem sign_loop (l : List UInt8) (i : Nat) (hi : i ≤ l.length) (S : St) (b : Nat) (hS : S.mem.get b = some (.box (tokC zeroT))) : ∀ (m j : Nat) (t : T AV), j + m = signsL.length → t.get 0 = some (strS l) → t.get 1 = some (intA i) → t.get 4 = some (.ptr b 0) → t.get 8 = some (.sl 1 0 1 (signsL.map strS)) → t.get 9 = some (intA signsL.length) → t.get 10 = some (intA j) →
    WX E1 24 (.loop signBody) ⟨t, []⟩ S (fun r => ∃ t', t'.get 4 = some (.ptr b 0) ∧ ((r = .out (.exit 0) ⟨t', []⟩ S ∧ (signsL.drop j).find? (fun s => startsW s (l.drop i)) = none) ∨ (∃ s, r = .out .ret ⟨t', []⟩ (S.put b (tokC ⟨4, i, s, 0⟩)) ∧ t'.get 5 = some (intA 0) ∧ (signsL.drop j).find? (fun s => startsW s (l.drop i)) = some s)))
  | 0, j, t, hj, h0, h1, h4, h8, h9, h10 => by
    refine WX_loop (W_sound ?_)
    have hlt : ¬ ((j : Int) < (signsL.length : Int)) := by omega
    have hd : signsL.drop j = [] := List.drop_eq_nil_of_le (by omega)
    simp only [strS, intA] at h0 h1 h8 h9 h10 ⊢
    simp only [thenW_normal, thenW_exit, thenW_ret, thenW_pan, W_skip, W_region, W_drawn, W_seq, W_cond, W_block, W_loop, W_exit, W_ret, seqQ_normal, seqQ_exit, seqQ_ret, seqQ_pan, blockW_normal, blockW_ret, blockW_pan, blockW_exit, WL_nil, WL_cons, execL_no, execL_val, execL_skip, execL_enter, execL_pan, putL_none, putL_some, retL_ret, retL_pan, condW_t, condW_f, wantedA, exec1, evalO, initT, T.get_set, T.get_leaf, callA, mapO, ofOpt, ofOptS, ofConst, e1_P, e1_G, partsA, neNil3, finW_ret, finW_pan, giveW, resultsA, tupA, ground_not, notO_bool, fb_lss, fb_leq, fb_gtr, fb_geq, fb_add, fb_eqlI, fb_neqI, Nat.reduceLT, Nat.reduceAdd, Nat.reduceEqDiff, if_true, if_false, reduceIte, true_and, and_true, Option.getD_some, List.getElem?_toArray, List.getElem?_cons_succ, List.getElem?_cons_zero, Option.bind_some, List.nil_append, List.append_nil, beq_self_eq_true, Bool.false_eq_true, Bool.true_eq_false, decide_true, decide_false, Bool.not_true, Bool.not_false, Bool.false_beq, Bool.true_beq, Option.toList, List.head?_cons, List.head?_nil, signBody, Tryz.f176, h0, h1, h8, h9, h10, hlt]
    refine ⟨_, ?_, .inl ⟨rfl, by rw [hd]; rfl⟩⟩
    simp only [T.get_set, Nat.reduceEqDiff, if_false, h4]
  | m + 1, j, t, hj, h0, h1, h4, h8, h9, h10 => by
    refine WX_loop (W_sound ?_)
    have hjl : j < signsL.length := by omega
    have hlt : ((j : Int) < (signsL.length : Int)) := by omega
    have hd : signsL.drop j = signsL[j] :: signsL.drop (j + 1) := List.drop_eq_getElem_cons hjl
    have hx := idx69 1 0 signsL j hjl
    have h16 : signsL.length = 16 := rfl
    have hw := wrap_one (i := j) (by omega)
    have hs := sl9_from l i hi
    obtain ⟨fn1, hf1⟩ := fnOk85
    simp only [strS, intA] at h0 h1 h8 h9 h10 hx ⊢
    simp only [thenW_normal, thenW_exit, thenW_ret, thenW_pan, W_skip, W_region, W_drawn, W_seq, W_cond, W_block, W_loop, W_exit, W_ret, seqQ_normal, seqQ_exit, seqQ_ret, seqQ_pan, blockW_normal, blockW_ret, blockW_pan, blockW_exit, WL_nil, WL_cons, execL_no, execL_val, execL_skip, execL_enter, execL_pan, putL_none, putL_some, retL_ret, retL_pan, condW_t, condW_f, wantedA, exec1, evalO, initT, T.get_set, T.get_leaf, callA, mapO, ofOpt, ofOptS, ofConst, e1_P, e1_G, partsA, neNil3, finW_ret, finW_pan, giveW, resultsA, tupA, ground_not, notO_bool, fb_lss, fb_leq, fb_gtr, fb_geq, fb_add, fb_eqlI, fb_neqI, Nat.reduceLT, Nat.reduceAdd, Nat.reduceEqDiff, if_true, if_false, reduceIte, true_and, and_true, Option.getD_some, List.getElem?_toArray, List.getElem?_cons_succ, List.getElem?_cons_zero, Option.bind_some, List.nil_append, List.append_nil, beq_self_eq_true, Bool.false_eq_true, Bool.true_eq_false, decide_true, decide_false, Bool.not_true, Bool.not_false, Bool.false_beq, Bool.true_beq, Option.toList, List.head?_cons, List.head?_nil, signBody, Tryz.f176, h0, h1, h8, h9, h10, hlt, hx, load9, hf1, hs]
    refine WC.mono (pre_w (l.drop i) signsL[j] S) ?_
    rintro _ rfl
    cases hb : startsW signsL[j] (l.drop i)
    · simp only [thenW_normal, thenW_exit, thenW_ret, thenW_pan, W_skip, W_region, W_drawn, W_seq, W_cond, W_block, W_loop, W_exit, W_ret, seqQ_normal, seqQ_exit, seqQ_ret, seqQ_pan, blockW_normal, blockW_ret, blockW_pan, blockW_exit, WL_nil, WL_cons, execL_no, execL_val, execL_skip, execL_enter, execL_pan, putL_none, putL_some, retL_ret, retL_pan, condW_t, condW_f, wantedA, exec1, evalO, initT, T.get_set, T.get_leaf, callA, mapO, ofOpt, ofOptS, ofConst, e1_P, e1_G, partsA, neNil3, finW_ret, finW_pan, giveW, resultsA, tupA, ground_not, notO_bool, fb_lss, fb_leq, fb_gtr, fb_geq, fb_add, fb_eqlI, fb_neqI, Nat.reduceLT, Nat.reduceAdd, Nat.reduceEqDiff, if_true, if_false, reduceIte, true_and, and_true, Option.getD_some, List.getElem?_toArray, List.getElem?_cons_succ, List.getElem?_cons_zero, Option.bind_some, List.nil_append, List.append_nil, beq_self_eq_true, Bool.false_eq_true, Bool.true_eq_false, decide_true, decide_false, Bool.not_true, Bool.not_false, Bool.false_beq, Bool.true_beq, Option.toList, List.head?_cons, List.head?_nil, signBody, Tryz.f176, h0, h1, h8, h9, h10, hw]
      refine WX.mono (sign_loop l i hi S b hS m (j + 1) _ (by omega) ?_ ?_ ?_ ?_ ?_ ?_) ?_
      · simp only [T.get_set, Nat.reduceEqDiff, if_false, h0]; rfl
      · simp only [T.get_set, Nat.reduceEqDiff, if_false, h1]; rfl
      · simp only [T.get_set, Nat.reduceEqDiff, if_false, h4]
      · simp only [T.get_set, Nat.reduceEqDiff, if_false, h8]
      · simp only [T.get_set, Nat.reduceEqDiff, if_false, h9]; rfl
      · simp only [T.get_set, Nat.reduceEqDiff, if_true]; rfl
      · rintro r ⟨t', h4', ⟨rfl, h⟩ | ⟨s, rfl, h5, h⟩⟩
        · exact ⟨t', h4', .inl ⟨rfl, by rw [hd, List.find?_cons, hb]; exact h⟩⟩
        · exact ⟨t', h4', .inr ⟨s, rfl, h5, by rw [hd, List.find?_cons, hb]; exact h⟩⟩
    · have hbl := b68_3 _ _ _ 4 i ⟨⟨signsL[j]⟩⟩ rfl rfl rfl
      have h1s := st68 hS rfl (show ([.v (.int .i64 4), .v (.int .i64 i), .v (.string ⟨⟨signsL[j]⟩⟩), u64A 0] : List AV).length = 4 from rfl)
      simp only [thenW_normal, thenW_exit, thenW_ret, thenW_pan, W_skip, W_region, W_drawn, W_seq, W_cond, W_block, W_loop, W_exit, W_ret, seqQ_normal, seqQ_exit, seqQ_ret, seqQ_pan, blockW_normal, blockW_ret, blockW_pan, blockW_exit, WL_nil, WL_cons, execL_no, execL_val, execL_skip, execL_enter, execL_pan, putL_none, putL_some, retL_ret, retL_pan, condW_t, condW_f, wantedA, exec1, evalO, initT, T.get_set, T.get_leaf, callA, mapO, ofOpt, ofOptS, ofConst, e1_P, e1_G, partsA, neNil3, finW_ret, finW_pan, giveW, resultsA, tupA, ground_not, notO_bool, fb_lss, fb_leq, fb_gtr, fb_geq, fb_add, fb_eqlI, fb_neqI, Nat.reduceLT, Nat.reduceAdd, Nat.reduceEqDiff, if_true, if_false, reduceIte, true_and, and_true, Option.getD_some, List.getElem?_toArray, List.getElem?_cons_succ, List.getElem?_cons_zero, Option.bind_some, List.nil_append, List.append_nil, beq_self_eq_true, Bool.false_eq_true, Bool.true_eq_false, decide_true, decide_false, Bool.not_true, Bool.not_false, Bool.false_beq, Bool.true_beq, Option.toList, List.head?_cons, List.head?_nil, signBody, Tryz.f176, h0, h1, h4, h8, h9, h10, hbl, h1s]
      refine ⟨_, ?_, .inr ⟨signsL[j], rfl, ?_, by rw [hd, List.find?_cons, hb]⟩⟩
      · simp only [T.get_set, Nat.reduceEqDiff, if_false, h4]
      · simp only [T.get_set, Nat.reduceEqDiff, if_true]; rfl
theorem sign_w (l : List UInt8) (i : Nat) (hi : i ≤ l.length) (S : St) : WC E1 176 [strS l, intA i] S (TokRet S (signT (l.drop i) i)) := by
  refine WC_fn Tryz.f176 (by kernel_rfl) (by kernel_rfl) (by kernel_rfl) (show (_ : Nat) ≤ _ from by show (_ : Nat) ≤ _; simp [Tryz.f176]) ?_
  obtain ⟨fn1, hf1⟩ := fnOk134
  have key := fun t h0 h1 h4 h8 h9 h10 => sign_loop l i hi (S.newBox (tokC zeroT)) S.next (new_get S _) signsL.length 0 t (by omega) h0 h1 h4 h8 h9 h10
  unfold signBody at key
  simp only [Tryz.f176] at key
  have keep : ∀ ys, Keep S ((S.newBox (tokC zeroT)).put S.next ys) := fun ys => keep_put (keep_new S _) (Nat.le_refl _) ys
  have hL := fun S => len69 S 1 0 (signsL.map strS)
  rw [List.length_map] at hL
  simp only [thenW_normal, thenW_exit, thenW_ret, thenW_pan, W_skip, W_region, W_drawn, W_seq, W_cond, W_block, W_loop, W_exit, W_ret, seqQ_normal, seqQ_exit, seqQ_ret, seqQ_pan, blockW_normal, blockW_ret, blockW_pan, blockW_exit, WL_nil, WL_cons, execL_no, execL_val, execL_skip, execL_enter, execL_pan, putL_none, putL_some, retL_ret, retL_pan, condW_t, condW_f, wantedA, exec1, evalO, initT, T.get_set, T.get_leaf, callA, mapO, ofOpt, ofOptS, ofConst, e1_P, e1_G, partsA, neNil3, finW_ret, finW_pan, giveW, resultsA, tupA, ground_not, notO_bool, fb_lss, fb_leq, fb_gtr, fb_geq, fb_add, fb_eqlI, fb_neqI, Nat.reduceLT, Nat.reduceAdd, Nat.reduceEqDiff, if_true, if_false, reduceIte, true_and, and_true, Option.getD_some, List.getElem?_toArray, List.getElem?_cons_succ, List.getElem?_cons_zero, Option.bind_some, List.nil_append, List.append_nil, beq_self_eq_true, Bool.false_eq_true, Bool.true_eq_false, decide_true, decide_false, Bool.not_true, Bool.not_false, Bool.false_beq, Bool.true_beq, Option.toList, List.head?_cons, List.head?_nil, Tryz.f176, al68, hf1]
  refine WC.mono (signs_w _) ?_
  rintro _ rfl
  simp only [thenW_normal, thenW_exit, thenW_ret, thenW_pan, W_skip, W_region, W_drawn, W_seq, W_cond, W_block, W_loop, W_exit, W_ret, seqQ_normal, seqQ_exit, seqQ_ret, seqQ_pan, blockW_normal, blockW_ret, blockW_pan, blockW_exit, WL_nil, WL_cons, execL_no, execL_val, execL_skip, execL_enter, execL_pan, putL_none, putL_some, retL_ret, retL_pan, condW_t, condW_f, wantedA, exec1, evalO, initT, T.get_set, T.get_leaf, callA, mapO, ofOpt, ofOptS, ofConst, e1_P, e1_G, partsA, neNil3, finW_ret, finW_pan, giveW, resultsA, tupA, ground_not, notO_bool, fb_lss, fb_leq, fb_gtr, fb_geq, fb_add, fb_eqlI, fb_neqI, Nat.reduceLT, Nat.reduceAdd, Nat.reduceEqDiff, if_true, if_false, reduceIte, true_and, and_true, Option.getD_some, List.getElem?_toArray, List.getElem?_cons_succ, List.getElem?_cons_zero, Option.bind_some, List.nil_append, List.append_nil, beq_self_eq_true, Bool.false_eq_true, Bool.true_eq_false, decide_true, decide_false, Bool.not_true, Bool.not_false, Bool.false_beq, Bool.true_beq, Option.toList, List.head?_cons, List.head?_nil, Tryz.f176, hL]
  refine WX.mono (key _ ?_ ?_ ?_ ?_ ?_ ?_) ?_
  · simp only [T.get_set, T.get_leaf, Nat.reduceEqDiff, if_true, if_false]
  · simp only [T.get_set, T.get_leaf, Nat.reduceEqDiff, if_true, if_false]
  · simp only [T.get_set, T.get_leaf, Nat.reduceEqDiff, if_true, if_false]
  · simp only [T.get_set, T.get_leaf, Nat.reduceEqDiff, if_true, if_false]
  · simp only [T.get_set, T.get_leaf, Nat.reduceEqDiff, if_true, if_false]; rfl
  · simp only [T.get_set, T.get_leaf, Nat.reduceEqDiff, if_true, if_false]; rfl
  · rintro r ⟨t', h4, ⟨rfl, h⟩ | ⟨s, rfl, h5, h⟩⟩
    · have e : signT (l.drop i) i = (zeroT, 1) := by unfold signT; rw [List.drop_zero] at h; rw [h]
      have q1 := st68_new S (tokC zeroT) (tokC zeroT) rfl rfl
      have q2 := ld68_put (S.newBox (tokC zeroT)) S.next (tokC zeroT) rfl
      simp only [thenW_normal, thenW_exit, thenW_ret, thenW_pan, W_skip, W_region, W_drawn, W_seq, W_cond, W_block, W_loop, W_exit, W_ret, seqQ_normal, seqQ_exit, seqQ_ret, seqQ_pan, blockW_normal, blockW_ret, blockW_pan, blockW_exit, WL_nil, WL_cons, execL_no, execL_val, execL_skip, execL_enter, execL_pan, putL_none, putL_some, retL_ret, retL_pan, condW_t, condW_f, wantedA, exec1, evalO, initT, T.get_set, T.get_leaf, callA, mapO, ofOpt, ofOptS, ofConst, e1_P, e1_G, partsA, neNil3, finW_ret, finW_pan, giveW, resultsA, tupA, ground_not, notO_bool, fb_lss, fb_leq, fb_gtr, fb_geq, fb_add, fb_eqlI, fb_neqI, Nat.reduceLT, Nat.reduceAdd, Nat.reduceEqDiff, if_true, if_false, reduceIte, true_and, and_true, Option.getD_some, List.getElem?_toArray, List.getElem?_cons_succ, List.getElem?_cons_zero, Option.bind_some, List.nil_append, List.append_nil, beq_self_eq_true, Bool.false_eq_true, Bool.true_eq_false, decide_true, decide_false, Bool.not_true, Bool.not_false, Bool.false_beq, Bool.true_beq, Option.toList, List.head?_cons, List.head?_nil, h4, b68_0, q1, q2]
      rw [e]
      exact ⟨_, rfl, keep _⟩
    · have e : signT (l.drop i) i = (⟨4, i, s, 0⟩, 0) := by unfold signT; rw [List.drop_zero] at h; rw [h]
      have q2 := ld68_put (S.newBox (tokC zeroT)) S.next (tokC ⟨4, i, s, 0⟩) rfl
      simp only [thenW_normal, thenW_exit, thenW_ret, thenW_pan, W_skip, W_region, W_drawn, W_seq, W_cond, W_block, W_loop, W_exit, W_ret, seqQ_normal, seqQ_exit, seqQ_ret, seqQ_pan, blockW_normal, blockW_ret, blockW_pan, blockW_exit, WL_nil, WL_cons, execL_no, execL_val, execL_skip, execL_enter, execL_pan, putL_none, putL_some, retL_ret, retL_pan, condW_t, condW_f, wantedA, exec1, evalO, initT, T.get_set, T.get_leaf, callA, mapO, ofOpt, ofOptS, ofConst, e1_P, e1_G, partsA, neNil3, finW_ret, finW_pan, giveW, resultsA, tupA, ground_not, notO_bool, fb_lss, fb_leq, fb_gtr, fb_geq, fb_add, fb_eqlI, fb_neqI, Nat.reduceLT, Nat.reduceAdd, Nat.reduceEqDiff, if_true, if_false, reduceIte, true_and, and_true, Option.getD_some, List.getElem?_toArray, List.getElem?_cons_succ, List.getElem?_cons_zero, Option.bind_some, List.nil_append, List.append_nil, beq_self_eq_true, Bool.false_eq_true, Bool.true_eq_false, decide_true, decide_false, Bool.not_true, Bool.not_false, Bool.false_beq, Bool.true_beq, Option.toList, List.head?_cons, List.head?_nil, h4, h5, q2]
      rw [e]
      exact ⟨_, rfl, keep _⟩
theorem next_w (l : List UInt8) (hl : l.length ≤ 100000) (i : Nat) (hi : i < l.length) (S : St) (p : Tk × Nat) (hp : nextT (l.drop i) i = some p) : WC E1 99 [strS l, intA i] S (TokRet S p) := by
  refine WC_fn Tryz.f99 (by kernel_rfl) (by kernel_rfl) (by kernel_rfl) (show (_ : Nat) ≤ _ from by show (_ : Nat) ≤ _; simp [Tryz.f99]) ?_
  obtain ⟨fn1, hf1⟩ := fnOk99
  obtain ⟨fn2, hf2⟩ := fnOk100
  obtain ⟨fn3, hf3⟩ := fnOk101
  obtain ⟨fn4, hf4⟩ := fnOk102
  obtain ⟨fn5, hf5⟩ := fnOk103
  have hx := idx9 l i hi
  rw [List.drop_eq_getElem_cons hi] at hp
  simp only [nextT] at hp
  rw [← List.drop_eq_getElem_cons hi] at hp
  simp only [strS, intA]
  simp only [thenW_normal, thenW_exit, thenW_ret, thenW_pan, W_skip, W_region, W_drawn, W_seq, W_cond, W_block, W_loop, W_exit, W_ret, seqQ_normal, seqQ_exit, seqQ_ret, seqQ_pan, blockW_normal, blockW_ret, blockW_pan, blockW_exit, WL_nil, WL_cons, execL_no, execL_val, execL_skip, execL_enter, execL_pan, putL_none, putL_some, retL_ret, retL_pan, condW_t, condW_f, wantedA, exec1, evalO, initT, T.get_set, T.get_leaf, callA, mapO, ofOpt, ofOptS, ofConst, e1_P, e1_G, partsA, neNil3, finW_ret, finW_pan, giveW, resultsA, tupA, ground_not, notO_bool, fb_lss, fb_leq, fb_gtr, fb_geq, fb_add, fb_eqlI, fb_neqI, Nat.reduceLT, Nat.reduceAdd, Nat.reduceEqDiff, if_true, if_false, reduceIte, true_and, and_true, Option.getD_some, List.getElem?_toArray, List.getElem?_cons_succ, List.getElem?_cons_zero, Option.bind_some, List.nil_append, List.append_nil, beq_self_eq_true, Bool.false_eq_true, Bool.true_eq_false, decide_true, decide_false, Bool.not_true, Bool.not_false, Bool.false_beq, Bool.true_beq, Option.toList, List.head?_cons, List.head?_nil, Tryz.f99, al68, hf1, hf2, hf3, hf4, hf5, hx]
  refine WC.mono (letter_w l[i] _) ?_
  rintro _ rfl
  have fin : ∀ S2 : St, Keep (S.newBox (tokC zeroT)) S2 → ∀ q : Tk, oStore Tryz.prog S2 205 (.ptr S.next 0) (tokA q) = some (S2.put S.next (tokC q)) ∧ oLoad Tryz.prog (S2.put S.next (tokC q)) 205 (.ptr S.next 0) = some (tokA q) ∧ Keep S (S2.put S.next (tokC q)) := fun S2 hk q =>
    ⟨st68 (by rw [hk.2 S.next (Nat.lt_succ_self _)]; exact new_get S _) rfl rfl, ld68_put _ _ _ rfl, keep_put ((keep_new S _).trans hk) (Nat.le_refl _) _⟩
  cases hb : isLetter l[i]
  · rw [hb] at hp
    simp only [Bool.false_eq_true, if_false] at hp
    simp only [thenW_normal, thenW_exit, thenW_ret, thenW_pan, W_skip, W_region, W_drawn, W_seq, W_cond, W_block, W_loop, W_exit, W_ret, seqQ_normal, seqQ_exit, seqQ_ret, seqQ_pan, blockW_normal, blockW_ret, blockW_pan, blockW_exit, WL_nil, WL_cons, execL_no, execL_val, execL_skip, execL_enter, execL_pan, putL_none, putL_some, retL_ret, retL_pan, condW_t, condW_f, wantedA, exec1, evalO, initT, T.get_set, T.get_leaf, callA, mapO, ofOpt, ofOptS, ofConst, e1_P, e1_G, partsA, neNil3, finW_ret, finW_pan, giveW, resultsA, tupA, ground_not, notO_bool, fb_lss, fb_leq, fb_gtr, fb_geq, fb_add, fb_eqlI, fb_neqI, Nat.reduceLT, Nat.reduceAdd, Nat.reduceEqDiff, if_true, if_false, reduceIte, true_and, and_true, Option.getD_some, List.getElem?_toArray, List.getElem?_cons_succ, List.getElem?_cons_zero, Option.bind_some, List.nil_append, List.append_nil, beq_self_eq_true, Bool.false_eq_true, Bool.true_eq_false, decide_true, decide_false, Bool.not_true, Bool.not_false, Bool.false_beq, Bool.true_beq, Option.toList, List.head?_cons, List.head?_nil, Tryz.f99, hf1, hf2, hf3, hf4, hf5]
    refine WC.mono (digit_w l[i] _) ?_
    rintro _ rfl
    cases hb2 : isDigit l[i]
    · rw [hb2] at hp
      simp only [Bool.false_eq_true, if_false] at hp
      injection hp with hp; subst hp
      simp only [thenW_normal, thenW_exit, thenW_ret, thenW_pan, W_skip, W_region, W_drawn, W_seq, W_cond, W_block, W_loop, W_exit, W_ret, seqQ_normal, seqQ_exit, seqQ_ret, seqQ_pan, blockW_normal, blockW_ret, blockW_pan, blockW_exit, WL_nil, WL_cons, execL_no, execL_val, execL_skip, execL_enter, execL_pan, putL_none, putL_some, retL_ret, retL_pan, condW_t, condW_f, wantedA, exec1, evalO, initT, T.get_set, T.get_leaf, callA, mapO, ofOpt, ofOptS, ofConst, e1_P, e1_G, partsA, neNil3, finW_ret, finW_pan, giveW, resultsA, tupA, ground_not, notO_bool, fb_lss, fb_leq, fb_gtr, fb_geq, fb_add, fb_eqlI, fb_neqI, Nat.reduceLT, Nat.reduceAdd, Nat.reduceEqDiff, if_true, if_false, reduceIte, true_and, and_true, Option.getD_some, List.getElem?_toArray, List.getElem?_cons_succ, List.getElem?_cons_zero, Option.bind_some, List.nil_append, List.append_nil, beq_self_eq_true, Bool.false_eq_true, Bool.true_eq_false, decide_true, decide_false, Bool.not_true, Bool.not_false, Bool.false_beq, Bool.true_beq, Option.toList, List.head?_cons, List.head?_nil, Tryz.f99, hf1, hf2, hf3, hf4, hf5]
      refine WC.mono (sign_w l i (by omega) _) ?_
      rintro _ ⟨S2, rfl, hk⟩
      obtain ⟨q1, q2, q3⟩ := fin S2 hk (signT (l.drop i) i).1
      simp only [thenW_normal, thenW_exit, thenW_ret, thenW_pan, W_skip, W_region, W_drawn, W_seq, W_cond, W_block, W_loop, W_exit, W_ret, seqQ_normal, seqQ_exit, seqQ_ret, seqQ_pan, blockW_normal, blockW_ret, blockW_pan, blockW_exit, WL_nil, WL_cons, execL_no, execL_val, execL_skip, execL_enter, execL_pan, putL_none, putL_some, retL_ret, retL_pan, condW_t, condW_f, wantedA, exec1, evalO, initT, T.get_set, T.get_leaf, callA, mapO, ofOpt, ofOptS, ofConst, e1_P, e1_G, partsA, neNil3, finW_ret, finW_pan, giveW, resultsA, tupA, ground_not, notO_bool, fb_lss, fb_leq, fb_gtr, fb_geq, fb_add, fb_eqlI, fb_neqI, Nat.reduceLT, Nat.reduceAdd, Nat.reduceEqDiff, if_true, if_false, reduceIte, true_and, and_true, Option.getD_some, List.getElem?_toArray, List.getElem?_cons_succ, List.getElem?_cons_zero, Option.bind_some, List.nil_append, List.append_nil, beq_self_eq_true, Bool.false_eq_true, Bool.true_eq_false, decide_true, decide_false, Bool.not_true, Bool.not_false, Bool.false_beq, Bool.true_beq, Option.toList, List.head?_cons, List.head?_nil, Tryz.f99, oExtract, List.getElem?_cons_succ, List.getElem?_cons_zero, q1, q2]
      exact ⟨_, rfl, q3⟩
    · rw [hb2] at hp
      simp only [if_true] at hp
      simp only [thenW_normal, thenW_exit, thenW_ret, thenW_pan, W_skip, W_region, W_drawn, W_seq, W_cond, W_block, W_loop, W_exit, W_ret, seqQ_normal, seqQ_exit, seqQ_ret, seqQ_pan, blockW_normal, blockW_ret, blockW_pan, blockW_exit, WL_nil, WL_cons, execL_no, execL_val, execL_skip, execL_enter, execL_pan, putL_none, putL_some, retL_ret, retL_pan, condW_t, condW_f, wantedA, exec1, evalO, initT, T.get_set, T.get_leaf, callA, mapO, ofOpt, ofOptS, ofConst, e1_P, e1_G, partsA, neNil3, finW_ret, finW_pan, giveW, resultsA, tupA, ground_not, notO_bool, fb_lss, fb_leq, fb_gtr, fb_geq, fb_add, fb_eqlI, fb_neqI, Nat.reduceLT, Nat.reduceAdd, Nat.reduceEqDiff, if_true, if_false, reduceIte, true_and, and_true, Option.getD_some, List.getElem?_toArray, List.getElem?_cons_succ, List.getElem?_cons_zero, Option.bind_some, List.nil_append, List.append_nil, beq_self_eq_true, Bool.false_eq_true, Bool.true_eq_false, decide_true, decide_false, Bool.not_true, Bool.not_false, Bool.false_beq, Bool.true_beq, Option.toList, List.head?_cons, List.head?_nil, Tryz.f99, hf1, hf2, hf3, hf4, hf5]
      refine WC.mono (number_w l hl i hi hb2 _ p hp) ?_
      rintro _ ⟨S2, rfl, hk⟩
      obtain ⟨q1, q2, q3⟩ := fin S2 hk p.1
      simp only [thenW_normal, thenW_exit, thenW_ret, thenW_pan, W_skip, W_region, W_drawn, W_seq, W_cond, W_block, W_loop, W_exit, W_ret, seqQ_normal, seqQ_exit, seqQ_ret, seqQ_pan, blockW_normal, blockW_ret, blockW_pan, blockW_exit, WL_nil, WL_cons, execL_no, execL_val, execL_skip, execL_enter, execL_pan, putL_none, putL_some, retL_ret, retL_pan, condW_t, condW_f, wantedA, exec1, evalO, initT, T.get_set, T.get_leaf, callA, mapO, ofOpt, ofOptS, ofConst, e1_P, e1_G, partsA, neNil3, finW_ret, finW_pan, giveW, resultsA, tupA, ground_not, notO_bool, fb_lss, fb_leq, fb_gtr, fb_geq, fb_add, fb_eqlI, fb_neqI, Nat.reduceLT, Nat.reduceAdd, Nat.reduceEqDiff, if_true, if_false, reduceIte, true_and, and_true, Option.getD_some, List.getElem?_toArray, List.getElem?_cons_succ, List.getElem?_cons_zero, Option.bind_some, List.nil_append, List.append_nil, beq_self_eq_true, Bool.false_eq_true, Bool.true_eq_false, decide_true, decide_false, Bool.not_true, Bool.not_false, Bool.false_beq, Bool.true_beq, Option.toList, List.head?_cons, List.head?_nil, Tryz.f99, oExtract, List.getElem?_cons_succ, List.getElem?_cons_zero, q1, q2]
      exact ⟨_, rfl, q3⟩
  · rw [hb] at hp
    simp only [if_true] at hp
    injection hp with hp; subst hp
    simp only [thenW_normal, thenW_exit, thenW_ret, thenW_pan, W_skip, W_region, W_drawn, W_seq, W_cond, W_block, W_loop, W_exit, W_ret, seqQ_normal, seqQ_exit, seqQ_ret, seqQ_pan, blockW_normal, blockW_ret, blockW_pan, blockW_exit, WL_nil, WL_cons, execL_no, execL_val, execL_skip, execL_enter, execL_pan, putL_none, putL_some, retL_ret, retL_pan, condW_t, condW_f, wantedA, exec1, evalO, initT, T.get_set, T.get_leaf, callA, mapO, ofOpt, ofOptS, ofConst, e1_P, e1_G, partsA, neNil3, finW_ret, finW_pan, giveW, resultsA, tupA, ground_not, notO_bool, fb_lss, fb_leq, fb_gtr, fb_geq, fb_add, fb_eqlI, fb_neqI, Nat.reduceLT, Nat.reduceAdd, Nat.reduceEqDiff, if_true, if_false, reduceIte, true_and, and_true, Option.getD_some, List.getElem?_toArray, List.getElem?_cons_succ, List.getElem?_cons_zero, Option.bind_some, List.nil_append, List.append_nil, beq_self_eq_true, Bool.false_eq_true, Bool.true_eq_false, decide_true, decide_false, Bool.not_true, Bool.not_false, Bool.false_beq, Bool.true_beq, Option.toList, List.head?_cons, List.head?_nil, Tryz.f99, hf1, hf2, hf3, hf4, hf5]
    refine WC.mono (word_w l hl i (by omega) _) ?_
    rintro _ ⟨S2, rfl, hk⟩
    obtain ⟨q1, q2, q3⟩ := fin S2 hk (wordT (l.drop i) i).1
    simp only [thenW_normal, thenW_exit, thenW_ret, thenW_pan, W_skip, W_region, W_drawn, W_seq, W_cond, W_block, W_loop, W_exit, W_ret, seqQ_normal, seqQ_exit, seqQ_ret, seqQ_pan, blockW_normal, blockW_ret, blockW_pan, blockW_exit, WL_nil, WL_cons, execL_no, execL_val, execL_skip, execL_enter, execL_pan, putL_none, putL_some, retL_ret, retL_pan, condW_t, condW_f, wantedA, exec1, evalO, initT, T.get_set, T.get_leaf, callA, mapO, ofOpt, ofOptS, ofConst, e1_P, e1_G, partsA, neNil3, finW_ret, finW_pan, giveW, resultsA, tupA, ground_not, notO_bool, fb_lss, fb_leq, fb_gtr, fb_geq, fb_add, fb_eqlI, fb_neqI, Nat.reduceLT, Nat.reduceAdd, Nat.reduceEqDiff, if_true, if_false, reduceIte, true_and, and_true, Option.getD_some, List.getElem?_toArray, List.getElem?_cons_succ, List.getElem?_cons_zero, Option.bind_some, List.nil_append, List.append_nil, beq_self_eq_true, Bool.false_eq_true, Bool.true_eq_false, decide_true, decide_false, Bool.not_true, Bool.not_false, Bool.false_beq, Bool.true_beq, Option.toList, List.head?_cons, List.head?_nil, Tryz.f99, oExtract, List.getElem?_cons_succ, List.getElem?_cons_zero, q1, q2]
    exact ⟨_, rfl, q3⟩
end Go.Ax
noncomputable section
namespace Go.Ax
open Go.RowKit Go.Proofs
set_option linter.unusedVariables false
set_option linter.unusedSimpArgs false
set_option maxRecDepth 100000
/-- The tokens from a place on: the first that can't be (where, why), or all; nothing is said of numbers that are too large for 64 bits. -/
def allF (l : List UInt8) : Nat → Nat → Option ((Nat × Nat) ⊕ List Tk)
  | 0, _ => none
  | n + 1, i => if i < l.length then (match nextT (l.drop i) i with
      | none => none
      | some p => if p.2 = 0 then (match allF l n (i + p.1.text.length + skipF (l.length + 1) (l.drop (i + p.1.text.length))) with
          | none => none
          | some (.inl x) => some (.inl x)
          | some (.inr ts) => some (.inr (p.1 :: ts))) else some (.inl (i, p.2)))
    else some (.inr [⟨5, l.length, [], 0⟩])
def lexL (l : List UInt8) : Option ((Nat × Nat) ⊕ List Tk) := if 4000 < l.length then some (.inl (4000, 3)) else allF l (l.length + 1) (skipF (l.length + 1) l)
theorem startsW_len {s l : List UInt8} (h : startsW s l = true) : s.length ≤ l.length := by
  unfold startsW at h
  rw [decide_eq_true_iff] at h
  have := congrArg List.length h
  simp at this; omega
theorem next_len {l : List UInt8} {i : Nat} {t : Tk} (h : nextT l i = some (t, 0)) : t.text.length ≤ l.length := by
  unfold nextT at h
  split at h
  · cases h
  · rename_i b r
    split at h
    · injection h with h
      unfold wordT at h
      split at h
      · injection h with h1 h2; subst h1; rw [List.length_take]; omega
      · split at h
        · injection h with h1 h2; cases h2
        · injection h with h1 h2; subst h1; rw [List.length_take]; omega
    · split at h
      · unfold numT at h
        split at h
        · injection h with h; injection h with h1 h2; cases h2
        · split at h
          · split at h
            · injection h with h; injection h with h1 h2; cases h2
            · injection h with h; injection h with h1 h2; subst h1; rw [List.length_take]; omega
          · cases h
      · injection h with h
        unfold signT at h
        split at h
        · rename_i s hs
          injection h with h1 h2; subst h1
          have hq : startsW s (b :: r) = true := by simpa using List.find?_some hs
          exact startsW_len hq
        · injection h with h1 h2; cases h2
def fltC (a e : Nat) : List AV := [intA a, intA e]
theorem a33 : isAggT Tryz.prog 27 = some true := by kernel_rfl
theorem s33 : sizeT Tryz.prog 27 = some 2 := by kernel_rfl
theorem al33 (S : St) : oAlloc Tryz.prog S 27 = some (.ptr S.next 0, S.newBox (fltC 0 0)) := rfl
theorem st33 {S : St} {id : Nat} {cs ys : List AV} (h : S.mem.get id = some (.box cs)) (hl : cs.length = 2) (hy : ys.length = 2) : oStore Tryz.prog S 27 (.ptr id 0) (.agg ys) = some (S.put id ys) := by
  have h2 : (AV.agg ys).noTup = true := rfl
  simp [oStore, h, s33, h2, AV.cells, hl, hy, St.put, List.drop_eq_nil_of_le]
theorem ld33_put (S : St) (id : Nat) (cs : List AV) (hl : cs.length = 2) : oLoad Tryz.prog (S.put id cs) 27 (.ptr id 0) = some (.agg cs) := by
  have e : cs.take 2 = cs := List.take_of_length_le (by omega)
  simp [oLoad, behind, put_get, a33, s33, hl, e]
theorem b33_0 : oBuild Tryz.prog 27 [] = some (.agg (fltC 0 0)) := rfl
theorem b33_2 (a e : Int) : oBuild Tryz.prog 27 [(0, .v (.int .i64 a)), (1, .v (.int .i64 e))] = some (.agg [.v (.int .i64 a), .v (.int .i64 e)]) := rfl
theorem neNil31 (a b : AV) : neNil Tryz.prog 25 a b = false := by
  have h : Tryz.prog.underlying 25 = some (.int .i64) := rfl
  unfold neNil; rw [h]
theorem e63 : elemT Tryz.prog 123 = some (none, 205) := by kernel_rfl
theorem u63 : Tryz.prog.underlying 123 = some (.slice 205) := by kernel_rfl
theorem i68 : (Tryz.prog.info? 205).map (fun i => (i.zero, i.size, i.bytes)) = some (some (.agg #[.int .i64 0, .int .i64 0, .string ⟨#[]⟩, .int .u64 0]), 4, 40) := by kernel_rfl
theorem z68 : zeroA Tryz.prog 205 = some (tokA zeroT) := by kernel_rfl
theorem row63 (t : Tk) : oBuildSlice Tryz.prog 123 1 [(0, tokA t)] = some (.sl 1 0 4 [tokA t]) := by
  have h1 : (tokA t).noTup = true := rfl
  have h2 : (tokA t).cells.length = 4 := rfl
  simp [oBuildSlice, e63, s68, z68, h1, h2]
theorem app63 (S : St) (a b : AV) : appendE E1 S 123 123 a b = oAppend Tryz.prog S 123 123 a b := rfl
/-- The row so far. -/
def RowOk (lo : Nat) (S : St) (a : AV) (es : List AV) : Prop := (a = .nils ∧ es = []) ∨ ∃ tok, 2 ≤ tok ∧ lo ≤ tok ∧ tok < S.next ∧ a = .sl tok 0 4 es ∧ S.mem.get tok = some (.tip (es.length * 4))
theorem RowOk.keep {lo : Nat} {S S' : St} {a : AV} {es : List AV} (h : RowOk lo S a es) (k : Keep S S') : RowOk lo S' a es := by
  rcases h with h | ⟨tok, h1, h2, h3, h4, h5⟩
  · exact .inl h
  · exact .inr ⟨tok, h1, h2, Nat.lt_of_lt_of_le h3 k.1, h4, by rw [k.2 tok h3]; exact h5⟩
/-- One more: what stood under other names stands. -/
theorem row_push {lo : Nat} {S : St} {a : AV} {es : List AV} (h : RowOk lo S a es) (hn : 2 ≤ S.next) (hlo : lo ≤ S.next) (t : Tk) (hl : es.length ≤ 100000) :
    ∃ S', oAppend Tryz.prog S 123 123 a (.sl 1 0 4 [tokA t]) = some (.sl S.next 0 4 (es ++ [tokA t]), S') ∧ RowOk lo S' (.sl S.next 0 4 (es ++ [tokA t])) (es ++ [tokA t]) ∧ S.next ≤ S'.next ∧ ∀ id cs, id < S.next → S.mem.get id = some (.box cs) ∨ id < lo → S'.mem.get id = S.mem.get id := by
  obtain ⟨i, hi, hz0, hz1, hz2⟩ := infoG_parts i68
  rcases h with ⟨rfl, rfl⟩ | ⟨tok, h1, h2, h3, rfl, h5⟩
  · refine ⟨S.grown 1 4, ?_, .inr ⟨S.next, hn, hlo, Nat.lt_succ_self _, rfl, ?_⟩, Nat.le_succ _, fun id cs hid _ => ?_⟩
    · simp [oAppend, e63, hi, hz0, hz1, hz2, srcA, u63, Value.cells]
    · show (S.mem.set S.next _).get S.next = _
      rw [T.get_set, if_pos rfl]; rfl
    · show (S.mem.set S.next _).get id = _
      rw [T.get_set, if_neg (by omega)]
  · obtain ⟨k, rfl⟩ : ∃ k, tok = k + 2 := ⟨tok - 2, by omega⟩
    have hb1 : (es.length + 1) * 40 ≤ 140737488355328 := by omega
    have hb2 : es.length + 1 ≤ 9223372036854775807 := by omega
    refine ⟨S.grown (k + 2) ((es ++ [tokA t]).length * 4), ?_, .inr ⟨S.next, hn, hlo, Nat.lt_succ_self _, rfl, ?_⟩, Nat.le_succ _, fun id cs hid hor => ?_⟩
    · simp [oAppend, e63, hi, hz0, hz1, hz2, srcA, u63, Value.cells, tipOk, h5, hb1, hb2]
    · show ((S.mem.set (k + 2) none).set S.next _).get S.next = _
      rw [T.get_set, if_pos rfl]
    · show ((S.mem.set (k + 2) none).set S.next _).get id = _
      rw [T.get_set, if_neg (by omega), T.get_set, if_neg (fun e => by
        subst e
        rcases hor with h | h
        · rw [h5] at h; cases h
        · omega)]
def allBody : Code := match Tryz.f60.body with
  | some (.seq _ (.seq _ (.seq _ (.seq (.seq _ (.block _ (.loop c))) _)))) => c
  | _ => .skip
theorem ld33_get {S : St} {id : Nat} {cs : List AV} (h : S.mem.get id = some (.box cs)) (hl : cs.length = 2) : oLoad Tryz.prog S 27 (.ptr id 0) = some (.agg cs) := by
  have e : cs.take 2 = cs := List.take_of_length_le (by omega)
  simp [oLoad, behind, h, a33, s33, hl, e]
theorem ld68_get {S : St} {id : Nat} {t : Tk} (h : S.mem.get id = some (.box (tokC t))) : oLoad Tryz.prog S 205 (.ptr id 0) = some (tokA t) := by
  simp [oLoad, behind, h, a68, s68, tokC, tokA]
theorem fa68 (id : Nat) : oFieldAddr Tryz.prog 205 (.ptr id 0) 2 = some (.ptr id 2) := by kernel_rfl
theorem ld9_get {S : St} {id : Nat} {t : Tk} (h : S.mem.get id = some (.box (tokC t))) : oLoad Tryz.prog S 9 (.ptr id 2) = some (strS t.text) := by
  simp [oLoad, behind, h, a9, tokC]
def LoopPost (l : List UInt8) (S0 : St) (acc : List Tk) (out : (Nat × Nat) ⊕ List Tk) (r : O) : Prop := match out with
  | .inl x => ∃ t' S', r = .out .ret ⟨t', []⟩ S' ∧ t'.get 2 = some .nils ∧ t'.get 3 = some (.ptr S0.next 0) ∧ S'.mem.get S0.next = some (.box (fltC x.1 x.2)) ∧ Keep S0 S'
  | .inr ts => ∃ t' S' a' acc', r = .out (.exit 0) ⟨t', []⟩ S' ∧ t'.get 0 = some (strS l) ∧ t'.get 3 = some (.ptr S0.next 0) ∧ t'.get 4 = some a' ∧ RowOk (S0.next + 1) S' a' (acc'.map tokA) ∧ acc' ++ [⟨5, l.length, [], 0⟩] = acc ++ ts ∧ acc'.length ≤ l.length ∧ S'.mem.get S0.next = some (.box (fltC 0 0)) ∧ Keep S0 S' ∧ S0.next < S'.next ∧ 2 ≤ S'.next
theorem all_loop (l : List UInt8) (hl : l.length ≤ 4000) (S0 : St) : ∀ (n i : Nat) (t : T AV) (S : St) (a : AV) (acc : List Tk) (out : (Nat × Nat) ⊕ List Tk), allF l n i = some out → i ≤ l.length → n + acc.length ≤ l.length + 1 → t.get 0 = some (strS l) → t.get 3 = some (.ptr S0.next 0) → t.get 4 = some a → t.get 5 = some (intA i) →
    RowOk (S0.next + 1) S a (acc.map tokA) → S.mem.get S0.next = some (.box (fltC 0 0)) → Keep S0 S → S0.next < S.next → 2 ≤ S.next → WX E1 47 (.loop allBody) ⟨t, []⟩ S (LoopPost l S0 acc out)
  | 0, i, t, S, a, acc, out, ho, hi, hn, h0, h3, h4, h5, hr, hb, hk, hlt, h2 => by cases ho
  | n + 1, i, t, S, a, acc, out, ho, hi, hn, h0, h3, h4, h5, hr, hb, hk, hlt, h2 => by
    refine WX_loop (W_sound ?_)
    obtain ⟨fn1, hf1⟩ := fnOk66
    obtain ⟨fn2, hf2⟩ := fnOk65
    unfold allF at ho
    by_cases hil : i < l.length
    · rw [if_pos hil] at ho
      have hltI : ((i : Int) < (l.length : Int)) := by omega
      cases hq : nextT (l.drop i) i with
      | none => rw [hq] at ho; cases ho
      | some p =>
        obtain ⟨tk, e⟩ := p
        rw [hq] at ho
        simp only at ho
        simp only [strS, intA] at h0 h5 ⊢
        simp only [thenW_normal, thenW_exit, thenW_ret, thenW_pan, W_skip, W_region, W_drawn, W_seq, W_cond, W_block, W_loop, W_exit, W_ret, seqQ_normal, seqQ_exit, seqQ_ret, seqQ_pan, blockW_normal, blockW_ret, blockW_pan, blockW_exit, WL_nil, WL_cons, execL_no, execL_val, execL_skip, execL_enter, execL_pan, putL_none, putL_some, retL_ret, retL_pan, condW_t, condW_f, wantedA, exec1, evalO, initT, T.get_set, T.get_leaf, callA, mapO, ofOpt, ofOptS, ofConst, e1_P, e1_G, partsA, neNil3, finW_ret, finW_pan, giveW, resultsA, tupA, ground_not, notO_bool, fb_lss, fb_leq, fb_gtr, fb_geq, fb_add, fb_eqlI, fb_neqI, Nat.reduceLT, Nat.reduceAdd, Nat.reduceEqDiff, if_true, if_false, reduceIte, true_and, and_true, Option.getD_some, List.getElem?_toArray, List.getElem?_cons_succ, List.getElem?_cons_zero, Option.bind_some, List.nil_append, List.append_nil, beq_self_eq_true, Bool.false_eq_true, Bool.true_eq_false, decide_true, decide_false, Bool.not_true, Bool.not_false, Bool.false_beq, Bool.true_beq, Option.toList, List.head?_cons, List.head?_nil, allBody, Tryz.f60, h0, h3, h4, h5, len9, hltI, hf1]
        refine WC.mono (next_w l (by omega) i hil S (tk, e) hq) ?_
        rintro _ ⟨S2, rfl, k2⟩
        have kS : Keep S0 S2 := hk.trans k2
        have hb2 : S2.mem.get S0.next = some (.box (fltC 0 0)) := by rw [k2.2 _ hlt]; exact hb
        have hlt2 : S0.next < S2.next := Nat.lt_of_lt_of_le hlt k2.1
        have hr2 := hr.keep k2
        have q1 : oStore Tryz.prog (S2.newBox (tokC zeroT)) 205 (.ptr S2.next 0) (tokA tk) = some ((S2.newBox (tokC zeroT)).put S2.next (tokC tk)) := st68_new S2 (tokC zeroT) (tokC tk) rfl rfl
        have kN : Keep S2 ((S2.newBox (tokC zeroT)).put S2.next (tokC tk)) := keep_put (keep_new S2 _) (Nat.le_refl _) _
        generalize hS3 : (S2.newBox (tokC zeroT)).put S2.next (tokC tk) = S3 at q1 kN
        have hn3 : S3.next = S2.next + 1 := by rw [← hS3]; rfl
        have hg3 : S3.mem.get S2.next = some (.box (tokC tk)) := by rw [← hS3]; exact put_get _ _ _
        have hb3 : S3.mem.get S0.next = some (.box (fltC 0 0)) := by rw [kN.2 _ hlt2]; exact hb2
        have hr3 := hr2.keep kN
        by_cases he : e = 0
        · subst he
          rw [if_pos rfl] at ho
          obtain ⟨S4, hap, hr4, hle4, hk4⟩ := row_push hr3 (by omega) (by omega) tk (by simp; omega)
          have hb4 : S4.mem.get S0.next = some (.box (fltC 0 0)) := by rw [hk4 S0.next (fltC 0 0) (by omega) (.inl hb3)]; exact hb3
          have hg4 : S4.mem.get S2.next = some (.box (tokC tk)) := by rw [hk4 S2.next (tokC tk) (by omega) (.inl hg3)]; exact hg3
          have kS4 : Keep S0 S4 := ⟨by have := kS.1; omega, fun id hid => by rw [hk4 id [] (by have := kS.1; omega) (.inr (by omega)), kN.2 id (by have := kS.1; omega)]; exact kS.2 id hid⟩
          have hnl := next_len hq
          rw [List.length_drop] at hnl
          have hw := wrap_add (i := i) (j := tk.text.length) (by omega)
          have ld1 := ld68_get hg3
          have z0 : (((0 : Nat) : Int) != 0) = false := rfl
          have ld2 := ld9_get hg4
          have hrow := row63 tk
          unfold strS at ld2
          simp only [thenW_normal, thenW_exit, thenW_ret, thenW_pan, W_skip, W_region, W_drawn, W_seq, W_cond, W_block, W_loop, W_exit, W_ret, seqQ_normal, seqQ_exit, seqQ_ret, seqQ_pan, blockW_normal, blockW_ret, blockW_pan, blockW_exit, WL_nil, WL_cons, execL_no, execL_val, execL_skip, execL_enter, execL_pan, putL_none, putL_some, retL_ret, retL_pan, condW_t, condW_f, wantedA, exec1, evalO, initT, T.get_set, T.get_leaf, callA, mapO, ofOpt, ofOptS, ofConst, e1_P, e1_G, partsA, neNil3, finW_ret, finW_pan, giveW, resultsA, tupA, ground_not, notO_bool, fb_lss, fb_leq, fb_gtr, fb_geq, fb_add, fb_eqlI, fb_neqI, Nat.reduceLT, Nat.reduceAdd, Nat.reduceEqDiff, if_true, if_false, reduceIte, true_and, and_true, Option.getD_some, List.getElem?_toArray, List.getElem?_cons_succ, List.getElem?_cons_zero, Option.bind_some, List.nil_append, List.append_nil, beq_self_eq_true, Bool.false_eq_true, Bool.true_eq_false, decide_true, decide_false, Bool.not_true, Bool.not_false, Bool.false_beq, Bool.true_beq, Option.toList, List.head?_cons, List.head?_nil, allBody, Tryz.f60, oExtract, al68, q1, neNil31, intA, bne_self_eq_false, app63, z0, ld1, ld2, hap, hrow, fa68, hw, len9, h0, h4, h5, hf2]
          refine WC.mono (skip_w l (by omega) (l.length + 1) (i + tk.text.length) (by omega) (by omega) S4) ?_
          rintro _ rfl
          simp only [thenW_normal, thenW_exit, thenW_ret, thenW_pan, W_skip, W_region, W_drawn, W_seq, W_cond, W_block, W_loop, W_exit, W_ret, seqQ_normal, seqQ_exit, seqQ_ret, seqQ_pan, blockW_normal, blockW_ret, blockW_pan, blockW_exit, WL_nil, WL_cons, execL_no, execL_val, execL_skip, execL_enter, execL_pan, putL_none, putL_some, retL_ret, retL_pan, condW_t, condW_f, wantedA, exec1, evalO, initT, T.get_set, T.get_leaf, callA, mapO, ofOpt, ofOptS, ofConst, e1_P, e1_G, partsA, neNil3, finW_ret, finW_pan, giveW, resultsA, tupA, ground_not, notO_bool, fb_lss, fb_leq, fb_gtr, fb_geq, fb_add, fb_eqlI, fb_neqI, Nat.reduceLT, Nat.reduceAdd, Nat.reduceEqDiff, if_true, if_false, reduceIte, true_and, and_true, Option.getD_some, List.getElem?_toArray, List.getElem?_cons_succ, List.getElem?_cons_zero, Option.bind_some, List.nil_append, List.append_nil, beq_self_eq_true, Bool.false_eq_true, Bool.true_eq_false, decide_true, decide_false, Bool.not_true, Bool.not_false, Bool.false_beq, Bool.true_beq, Option.toList, List.head?_cons, List.head?_nil, allBody, Tryz.f60]
          have hsk := skipF_le (l.length + 1) (l.drop (i + tk.text.length))
          rw [List.length_drop] at hsk
          cases hrest : allF l n (i + tk.text.length + skipF (l.length + 1) (l.drop (i + tk.text.length))) with
          | none => rw [hrest] at ho; cases ho
          | some out2 =>
            rw [hrest] at ho
            refine WX.mono (all_loop l hl S0 n _ _ S4 _ (acc ++ [tk]) out2 hrest (by omega) (by simp; omega) ?_ ?_ ?_ ?_ (by rw [List.map_append]; exact hr4) hb4 kS4 (by omega) (by omega)) ?_
            · simp only [T.get_set, Nat.reduceEqDiff, if_false, h0]; rfl
            · simp only [T.get_set, Nat.reduceEqDiff, if_false, h3]
            · simp only [T.get_set, Nat.reduceEqDiff, if_true, if_false]
            · simp only [T.get_set, Nat.reduceEqDiff, if_true]
            · intro r hp
              cases out2 with
              | inl x => injection ho with ho; subst ho; exact hp
              | inr ts =>
                injection ho with ho; subst ho
                obtain ⟨t', S', a', acc', g1, g2, g3, g4, g5, g6, g7⟩ := hp
                exact ⟨t', S', a', acc', g1, g2, g3, g4, g5, by rw [g6]; simp, g7⟩
        · rw [if_neg he] at ho
          injection ho with ho; subst ho
          have hne : (((e : Nat) : Int) != 0) = true := by rw [bne_iff_ne]; omega
          have st := st33 hb3 rfl (show ([.v (.int .i64 i), .v (.int .i64 e)] : List AV).length = 2 from rfl)
          simp only [thenW_normal, thenW_exit, thenW_ret, thenW_pan, W_skip, W_region, W_drawn, W_seq, W_cond, W_block, W_loop, W_exit, W_ret, seqQ_normal, seqQ_exit, seqQ_ret, seqQ_pan, blockW_normal, blockW_ret, blockW_pan, blockW_exit, WL_nil, WL_cons, execL_no, execL_val, execL_skip, execL_enter, execL_pan, putL_none, putL_some, retL_ret, retL_pan, condW_t, condW_f, wantedA, exec1, evalO, initT, T.get_set, T.get_leaf, callA, mapO, ofOpt, ofOptS, ofConst, e1_P, e1_G, partsA, neNil3, finW_ret, finW_pan, giveW, resultsA, tupA, ground_not, notO_bool, fb_lss, fb_leq, fb_gtr, fb_geq, fb_add, fb_eqlI, fb_neqI, Nat.reduceLT, Nat.reduceAdd, Nat.reduceEqDiff, if_true, if_false, reduceIte, true_and, and_true, Option.getD_some, List.getElem?_toArray, List.getElem?_cons_succ, List.getElem?_cons_zero, Option.bind_some, List.nil_append, List.append_nil, beq_self_eq_true, Bool.false_eq_true, Bool.true_eq_false, decide_true, decide_false, Bool.not_true, Bool.not_false, Bool.false_beq, Bool.true_beq, Option.toList, List.head?_cons, List.head?_nil, allBody, Tryz.f60, oExtract, al68, q1, neNil31, intA, hne, b33_2, h3, h5, st]
          refine ⟨_, _, rfl, ?_, ?_, put_get _ _ _, ?_⟩
          · simp only [T.get_set, Nat.reduceEqDiff, if_true]
          · simp only [T.get_set, Nat.reduceEqDiff, if_false, h3]
          · exact keep_put (kS.trans kN) (Nat.le_refl _) _
    · rw [if_neg hil] at ho
      injection ho with ho; subst ho
      have hltI : ¬ ((i : Int) < (l.length : Int)) := by omega
      simp only [strS, intA] at h0 h5 ⊢
      simp only [thenW_normal, thenW_exit, thenW_ret, thenW_pan, W_skip, W_region, W_drawn, W_seq, W_cond, W_block, W_loop, W_exit, W_ret, seqQ_normal, seqQ_exit, seqQ_ret, seqQ_pan, blockW_normal, blockW_ret, blockW_pan, blockW_exit, WL_nil, WL_cons, execL_no, execL_val, execL_skip, execL_enter, execL_pan, putL_none, putL_some, retL_ret, retL_pan, condW_t, condW_f, wantedA, exec1, evalO, initT, T.get_set, T.get_leaf, callA, mapO, ofOpt, ofOptS, ofConst, e1_P, e1_G, partsA, neNil3, finW_ret, finW_pan, giveW, resultsA, tupA, ground_not, notO_bool, fb_lss, fb_leq, fb_gtr, fb_geq, fb_add, fb_eqlI, fb_neqI, Nat.reduceLT, Nat.reduceAdd, Nat.reduceEqDiff, if_true, if_false, reduceIte, true_and, and_true, Option.getD_some, List.getElem?_toArray, List.getElem?_cons_succ, List.getElem?_cons_zero, Option.bind_some, List.nil_append, List.append_nil, beq_self_eq_true, Bool.false_eq_true, Bool.true_eq_false, decide_true, decide_false, Bool.not_true, Bool.not_false, Bool.false_beq, Bool.true_beq, Option.toList, List.head?_cons, List.head?_nil, allBody, Tryz.f60, h0, h3, h4, h5, len9, hltI]
      refine ⟨_, S, a, acc, rfl, ?_, ?_, ?_, hr, rfl, by omega, hb, hk, hlt, h2⟩
      · simp only [T.get_set, Nat.reduceEqDiff, if_false, h0]; rfl
      · simp only [T.get_set, Nat.reduceEqDiff, if_false, h3]
      · simp only [T.get_set, Nat.reduceEqDiff, if_false, h4]
/-- What All answers. -/
def LexPost (S : St) (out : (Nat × Nat) ⊕ List Tk) (r : R) : Prop := match out with
  | .inl x => ∃ S', r = .ret (.tup [.nils, .agg (fltC x.1 x.2)]) S' ∧ Keep S S'
  | .inr ts => ∃ S' tok, r = .ret (.tup [.sl tok 0 4 (ts.map tokA), .agg (fltC 0 0)]) S' ∧ Keep S S'
theorem all_w (l : List UInt8) (S : St) (hS : 2 ≤ S.next) (hsz : l.length ≤ 1000000) (out : (Nat × Nat) ⊕ List Tk) (ho : lexL l = some out) : WC E1 60 [strS l] S (LexPost S out) := by
  refine WC_fn Tryz.f60 (by kernel_rfl) (by kernel_rfl) (by kernel_rfl) (show (_ : Nat) ≤ _ from by show (_ : Nat) ≤ _; simp [Tryz.f60]) ?_
  obtain ⟨fn2, hf2⟩ := fnOk65
  have hn := new_get S (fltC 0 0)
  have kn := keep_new S (fltC 0 0)
  unfold lexL at ho
  simp only [strS]
  by_cases h4 : 4000 < l.length
  · rw [if_pos h4] at ho
    injection ho with ho; subst ho
    have hg : ((l.length : Nat) : Int) > 4000 := by omega
    have q1 := st33 hn rfl (show ([.v (.int .i64 4000), .v (.int .i64 3)] : List AV).length = 2 from rfl)
    have q2 := ld33_put (S.newBox (fltC 0 0)) S.next [.v (.int .i64 4000), .v (.int .i64 3)] rfl
    simp only [thenW_normal, thenW_exit, thenW_ret, thenW_pan, W_skip, W_region, W_drawn, W_seq, W_cond, W_block, W_loop, W_exit, W_ret, seqQ_normal, seqQ_exit, seqQ_ret, seqQ_pan, blockW_normal, blockW_ret, blockW_pan, blockW_exit, WL_nil, WL_cons, execL_no, execL_val, execL_skip, execL_enter, execL_pan, putL_none, putL_some, retL_ret, retL_pan, condW_t, condW_f, wantedA, exec1, evalO, initT, T.get_set, T.get_leaf, callA, mapO, ofOpt, ofOptS, ofConst, e1_P, e1_G, partsA, neNil3, finW_ret, finW_pan, giveW, resultsA, tupA, ground_not, notO_bool, fb_lss, fb_leq, fb_gtr, fb_geq, fb_add, fb_eqlI, fb_neqI, Nat.reduceLT, Nat.reduceAdd, Nat.reduceEqDiff, if_true, if_false, reduceIte, true_and, and_true, Option.getD_some, List.getElem?_toArray, List.getElem?_cons_succ, List.getElem?_cons_zero, Option.bind_some, List.nil_append, List.append_nil, beq_self_eq_true, Bool.false_eq_true, Bool.true_eq_false, decide_true, decide_false, Bool.not_true, Bool.not_false, Bool.false_beq, Bool.true_beq, Option.toList, List.head?_cons, List.head?_nil, Tryz.f60, al33, len9, hg, b33_2, q1, q2]
    exact ⟨_, rfl, keep_put kn (Nat.le_refl _) _⟩
  · rw [if_neg h4] at ho
    have hg : ¬ ((l.length : Nat) : Int) > 4000 := by omega
    have hsk := skipF_le (l.length + 1) l
    have key := fun t h0 h3 h4' h5 => all_loop l (by omega) S (l.length + 1) (skipF (l.length + 1) l) t (S.newBox (fltC 0 0)) .nils [] out ho hsk (by simp) h0 h3 h4' h5 (.inl ⟨rfl, rfl⟩) hn kn (Nat.lt_succ_self _) (Nat.le_succ_of_le hS)
    unfold allBody at key
    simp only [Tryz.f60] at key
    simp only [thenW_normal, thenW_exit, thenW_ret, thenW_pan, W_skip, W_region, W_drawn, W_seq, W_cond, W_block, W_loop, W_exit, W_ret, seqQ_normal, seqQ_exit, seqQ_ret, seqQ_pan, blockW_normal, blockW_ret, blockW_pan, blockW_exit, WL_nil, WL_cons, execL_no, execL_val, execL_skip, execL_enter, execL_pan, putL_none, putL_some, retL_ret, retL_pan, condW_t, condW_f, wantedA, exec1, evalO, initT, T.get_set, T.get_leaf, callA, mapO, ofOpt, ofOptS, ofConst, e1_P, e1_G, partsA, neNil3, finW_ret, finW_pan, giveW, resultsA, tupA, ground_not, notO_bool, fb_lss, fb_leq, fb_gtr, fb_geq, fb_add, fb_eqlI, fb_neqI, Nat.reduceLT, Nat.reduceAdd, Nat.reduceEqDiff, if_true, if_false, reduceIte, true_and, and_true, Option.getD_some, List.getElem?_toArray, List.getElem?_cons_succ, List.getElem?_cons_zero, Option.bind_some, List.nil_append, List.append_nil, beq_self_eq_true, Bool.false_eq_true, Bool.true_eq_false, decide_true, decide_false, Bool.not_true, Bool.not_false, Bool.false_beq, Bool.true_beq, Option.toList, List.head?_cons, List.head?_nil, Tryz.f60, al33, len9, hg, hf2]
    refine WC.mono (skip_w l (by omega) (l.length + 1) 0 (by omega) (by omega) _) ?_
    rintro _ rfl
    simp only [List.drop_zero, Nat.zero_add]
    simp only [thenW_normal, thenW_exit, thenW_ret, thenW_pan, W_skip, W_region, W_drawn, W_seq, W_cond, W_block, W_loop, W_exit, W_ret, seqQ_normal, seqQ_exit, seqQ_ret, seqQ_pan, blockW_normal, blockW_ret, blockW_pan, blockW_exit, WL_nil, WL_cons, execL_no, execL_val, execL_skip, execL_enter, execL_pan, putL_none, putL_some, retL_ret, retL_pan, condW_t, condW_f, wantedA, exec1, evalO, initT, T.get_set, T.get_leaf, callA, mapO, ofOpt, ofOptS, ofConst, e1_P, e1_G, partsA, neNil3, finW_ret, finW_pan, giveW, resultsA, tupA, ground_not, notO_bool, fb_lss, fb_leq, fb_gtr, fb_geq, fb_add, fb_eqlI, fb_neqI, Nat.reduceLT, Nat.reduceAdd, Nat.reduceEqDiff, if_true, if_false, reduceIte, true_and, and_true, Option.getD_some, List.getElem?_toArray, List.getElem?_cons_succ, List.getElem?_cons_zero, Option.bind_some, List.nil_append, List.append_nil, beq_self_eq_true, Bool.false_eq_true, Bool.true_eq_false, decide_true, decide_false, Bool.not_true, Bool.not_false, Bool.false_beq, Bool.true_beq, Option.toList, List.head?_cons, List.head?_nil, Tryz.f60]
    refine WX.mono (key _ ?_ ?_ ?_ ?_) ?_
    · simp only [T.get_set, T.get_leaf, Nat.reduceEqDiff, if_true, if_false]; rfl
    · simp only [T.get_set, T.get_leaf, Nat.reduceEqDiff, if_true, if_false]
    · simp only [T.get_set, T.get_leaf, Nat.reduceEqDiff, if_true, if_false]
    · simp only [T.get_set, T.get_leaf, Nat.reduceEqDiff, if_true, if_false]
    · intro r hp
      cases out with
      | inl x =>
        obtain ⟨t', S', rfl, g2, g3, g4, g5⟩ := hp
        have q2 := ld33_get g4 rfl
        simp only [thenW_normal, thenW_exit, thenW_ret, thenW_pan, W_skip, W_region, W_drawn, W_seq, W_cond, W_block, W_loop, W_exit, W_ret, seqQ_normal, seqQ_exit, seqQ_ret, seqQ_pan, blockW_normal, blockW_ret, blockW_pan, blockW_exit, WL_nil, WL_cons, execL_no, execL_val, execL_skip, execL_enter, execL_pan, putL_none, putL_some, retL_ret, retL_pan, condW_t, condW_f, wantedA, exec1, evalO, initT, T.get_set, T.get_leaf, callA, mapO, ofOpt, ofOptS, ofConst, e1_P, e1_G, partsA, neNil3, finW_ret, finW_pan, giveW, resultsA, tupA, ground_not, notO_bool, fb_lss, fb_leq, fb_gtr, fb_geq, fb_add, fb_eqlI, fb_neqI, Nat.reduceLT, Nat.reduceAdd, Nat.reduceEqDiff, if_true, if_false, reduceIte, true_and, and_true, Option.getD_some, List.getElem?_toArray, List.getElem?_cons_succ, List.getElem?_cons_zero, Option.bind_some, List.nil_append, List.append_nil, beq_self_eq_true, Bool.false_eq_true, Bool.true_eq_false, decide_true, decide_false, Bool.not_true, Bool.not_false, Bool.false_beq, Bool.true_beq, Option.toList, List.head?_cons, List.head?_nil, Tryz.f60, g2, g3, q2]
        exact ⟨_, rfl, g5⟩
      | inr ts =>
        obtain ⟨t', S', a', acc', rfl, g0, g3, g4, g5, g6, g7, g8, g9, g10, g11⟩ := hp
        unfold strS at g0
        obtain ⟨S4, hap, hr4, hle4, hk4⟩ := row_push g5 (by omega) (by omega) ⟨5, l.length, [], 0⟩ (by simp; omega)
        have hb4 : S4.mem.get S.next = some (.box (fltC 0 0)) := by rw [hk4 S.next (fltC 0 0) g10 (.inl g8)]; exact g8
        have k4 : Keep S S4 := ⟨by have := g9.1; omega, fun id hid => by rw [hk4 id [] (by have := g9.1; omega) (.inr (by omega))]; exact g9.2 id hid⟩
        have hb : oBuild Tryz.prog 205 [(0, .v (.int .i64 5)), (1, .v (.int .i64 (l.length : Int)))] = some (tokA ⟨5, l.length, [], 0⟩) := rfl
        have hrow := row63 ⟨5, l.length, [], 0⟩
        have q1 := st33 hb4 rfl (show (fltC 0 0).length = 2 from rfl)
        have q2 := ld33_put S4 S.next (fltC 0 0) rfl
        simp only [thenW_normal, thenW_exit, thenW_ret, thenW_pan, W_skip, W_region, W_drawn, W_seq, W_cond, W_block, W_loop, W_exit, W_ret, seqQ_normal, seqQ_exit, seqQ_ret, seqQ_pan, blockW_normal, blockW_ret, blockW_pan, blockW_exit, WL_nil, WL_cons, execL_no, execL_val, execL_skip, execL_enter, execL_pan, putL_none, putL_some, retL_ret, retL_pan, condW_t, condW_f, wantedA, exec1, evalO, initT, T.get_set, T.get_leaf, callA, mapO, ofOpt, ofOptS, ofConst, e1_P, e1_G, partsA, neNil3, finW_ret, finW_pan, giveW, resultsA, tupA, ground_not, notO_bool, fb_lss, fb_leq, fb_gtr, fb_geq, fb_add, fb_eqlI, fb_neqI, Nat.reduceLT, Nat.reduceAdd, Nat.reduceEqDiff, if_true, if_false, reduceIte, true_and, and_true, Option.getD_some, List.getElem?_toArray, List.getElem?_cons_succ, List.getElem?_cons_zero, Option.bind_some, List.nil_append, List.append_nil, beq_self_eq_true, Bool.false_eq_true, Bool.true_eq_false, decide_true, decide_false, Bool.not_true, Bool.not_false, Bool.false_beq, Bool.true_beq, Option.toList, List.head?_cons, List.head?_nil, Tryz.f60, g0, g3, g4, len9, app63, hb, hrow, hap, b33_0, q1, q2]
        refine ⟨S4.put S.next (fltC 0 0), S'.next, ?_, keep_put k4 (Nat.le_refl _) _⟩
        have e : acc'.map tokA ++ [tokA ⟨5, l.length, [], 0⟩] = ts.map tokA := by
          have := congrArg (List.map tokA) g6
          simpa using this
        rw [e]
end Go.Ax
