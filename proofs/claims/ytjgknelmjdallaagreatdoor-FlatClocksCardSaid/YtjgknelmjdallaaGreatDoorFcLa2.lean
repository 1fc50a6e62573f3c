/-
  Bytes of a text: what they are.
-/
import Derived.Test.YtjgknelmjdallaaGreatDoorFcHa2
import Derived.Test.YtjgknelmjdallaaGreatDoorFcV2
noncomputable section
namespace Go.Ax
open Go.RowKit Go.Proofs
set_option linter.unusedVariables false
set_option linter.unusedSimpArgs false
set_option maxRecDepth 100000

theorem e1_P : E1.P = Tryz.prog := rfl
theorem e1_G : E1.G = fun _ => none := rfl
theorem neNil3 (a b : AV) : neNil Tryz.prog 3 a b = false := by unfold neNil; rw [Tryz.underlying3]
theorem u5 : ∃ d, Tryz.prog.underlying 5 = some d ∧ ∀ e, d ≠ .slice e := ⟨_, rfl, fun _ h => by cases h⟩
theorem neNil5 (a b : AV) : neNil Tryz.prog 5 a b = false := by
  have h : Tryz.prog.underlying 5 = some (.int .u8) := rfl
  unfold neNil; rw [h]
theorem fb_lss (k : IntKind) (x y : Int) : fastBin .lss (.v (.int k x)) (.v (.int k y)) = some (.v (.bool (decide (x < y)))) := by simp [fastBin]
theorem fb_leq (k : IntKind) (x y : Int) : fastBin .leq (.v (.int k x)) (.v (.int k y)) = some (.v (.bool (decide (x ≤ y)))) := by simp [fastBin]
theorem fb_gtr (k : IntKind) (x y : Int) : fastBin .gtr (.v (.int k x)) (.v (.int k y)) = some (.v (.bool (decide (x > y)))) := by simp [fastBin]
theorem fb_geq (k : IntKind) (x y : Int) : fastBin .geq (.v (.int k x)) (.v (.int k y)) = some (.v (.bool (decide (x ≥ y)))) := by simp [fastBin]
theorem fb_add (k : IntKind) (x y : Int) : fastBin .add (.v (.int k x)) (.v (.int k y)) = some (.v (.int k (k.wrap (x + y)))) := by simp [fastBin]
theorem fb_neqI (k : IntKind) (x y : Int) : fastBin .neq (.v (.int k x)) (.v (.int k y)) = some (.v (.bool (x != y))) := by simp [fastBin]
theorem fb_eqlI (k : IntKind) (x y : Int) : fastBin .eql (.v (.int k x)) (.v (.int k y)) = some (.v (.bool (x == y))) := by simp [fastBin]
def isLetter (b : UInt8) : Bool := (65 ≤ b.toNat && b.toNat ≤ 90) || (97 ≤ b.toNat && b.toNat ≤ 122) || b.toNat == 95
def isDigit (b : UInt8) : Bool := 48 ≤ b.toNat && b.toNat ≤ 57
def isBlank (b : UInt8) : Bool := b.toNat == 32 || b.toNat == 9 || b.toNat == 10
def notEnd (b : UInt8) : Bool := !(b.toNat == 10)
def isWordB (b : UInt8) : Bool := isLetter b || isDigit b
/-- It answers so, and leaves all as it is. -/
def Gives (r : R) (a : AV) (S : St) : Prop := r = .ret a S
theorem digit_w (b : UInt8) (S : St) : WC E1 101 [byteA b] S (fun r => r = .ret (.v (.bool (isDigit b))) S) := by
  refine WC_fn Tryz.f101 (by kernel_rfl) (by kernel_rfl) (by kernel_rfl) (show (_ : Nat) ≤ _ from by show (_ : Nat) ≤ _; simp [Tryz.f101]) ?_
  unfold byteA
  by_cases h1 : (48 : Int) ≤ (b.toNat : Int)
  · by_cases h2 : (b.toNat : Int) ≤ 57
    · have e : isDigit b = true := by unfold isDigit; simp; omega
      simp only [thenW_normal, thenW_exit, thenW_ret, thenW_pan, W_skip, W_region, W_drawn, W_seq, W_cond, W_block, W_loop, W_exit, W_ret, seqQ_normal, seqQ_exit, seqQ_ret, seqQ_pan, blockW_normal, blockW_ret, blockW_pan, blockW_exit, WL_nil, WL_cons, execL_no, execL_val, execL_skip, execL_enter, execL_pan, putL_none, putL_some, retL_ret, retL_pan, condW_t, condW_f, wantedA, exec1, evalO, initT, T.get_set, T.get_leaf, callA, mapO, ofOpt, ofOptS, ofConst, e1_P, e1_G, partsA, neNil3, finW_ret, finW_pan, giveW, resultsA, tupA, fb_lss, fb_leq, fb_gtr, fb_geq, fb_add, fb_eqlI, fb_neqI, Nat.reduceLT, Nat.reduceAdd, Nat.reduceEqDiff, if_true, if_false, reduceIte, true_and, and_true, Option.getD_some, List.getElem?_toArray, List.getElem?_cons_succ, List.getElem?_cons_zero, Option.bind_some, List.nil_append, List.append_nil, beq_self_eq_true, Bool.false_eq_true, Bool.true_eq_false, decide_true, decide_false, Bool.not_true, Bool.not_false, Bool.false_beq, Bool.true_beq, Option.toList, List.head?_cons, List.head?_nil, Tryz.f101, neNil5, h1, h2, e]
    · have e : isDigit b = false := by unfold isDigit; simp; omega
      simp only [thenW_normal, thenW_exit, thenW_ret, thenW_pan, W_skip, W_region, W_drawn, W_seq, W_cond, W_block, W_loop, W_exit, W_ret, seqQ_normal, seqQ_exit, seqQ_ret, seqQ_pan, blockW_normal, blockW_ret, blockW_pan, blockW_exit, WL_nil, WL_cons, execL_no, execL_val, execL_skip, execL_enter, execL_pan, putL_none, putL_some, retL_ret, retL_pan, condW_t, condW_f, wantedA, exec1, evalO, initT, T.get_set, T.get_leaf, callA, mapO, ofOpt, ofOptS, ofConst, e1_P, e1_G, partsA, neNil3, finW_ret, finW_pan, giveW, resultsA, tupA, fb_lss, fb_leq, fb_gtr, fb_geq, fb_add, fb_eqlI, fb_neqI, Nat.reduceLT, Nat.reduceAdd, Nat.reduceEqDiff, if_true, if_false, reduceIte, true_and, and_true, Option.getD_some, List.getElem?_toArray, List.getElem?_cons_succ, List.getElem?_cons_zero, Option.bind_some, List.nil_append, List.append_nil, beq_self_eq_true, Bool.false_eq_true, Bool.true_eq_false, decide_true, decide_false, Bool.not_true, Bool.not_false, Bool.false_beq, Bool.true_beq, Option.toList, List.head?_cons, List.head?_nil, Tryz.f101, neNil5, h1, h2, e]
  · have e : isDigit b = false := by unfold isDigit; simp; omega
    simp only [thenW_normal, thenW_exit, thenW_ret, thenW_pan, W_skip, W_region, W_drawn, W_seq, W_cond, W_block, W_loop, W_exit, W_ret, seqQ_normal, seqQ_exit, seqQ_ret, seqQ_pan, blockW_normal, blockW_ret, blockW_pan, blockW_exit, WL_nil, WL_cons, execL_no, execL_val, execL_skip, execL_enter, execL_pan, putL_none, putL_some, retL_ret, retL_pan, condW_t, condW_f, wantedA, exec1, evalO, initT, T.get_set, T.get_leaf, callA, mapO, ofOpt, ofOptS, ofConst, e1_P, e1_G, partsA, neNil3, finW_ret, finW_pan, giveW, resultsA, tupA, fb_lss, fb_leq, fb_gtr, fb_geq, fb_add, fb_eqlI, fb_neqI, Nat.reduceLT, Nat.reduceAdd, Nat.reduceEqDiff, if_true, if_false, reduceIte, true_and, and_true, Option.getD_some, List.getElem?_toArray, List.getElem?_cons_succ, List.getElem?_cons_zero, Option.bind_some, List.nil_append, List.append_nil, beq_self_eq_true, Bool.false_eq_true, Bool.true_eq_false, decide_true, decide_false, Bool.not_true, Bool.not_false, Bool.false_beq, Bool.true_beq, Option.toList, List.head?_cons, List.head?_nil, Tryz.f101, neNil5, h1, e]
theorem blank_w (b : UInt8) (S : St) : WC E1 97 [byteA b] S (fun r => r = .ret (.v (.bool (isBlank b))) S) := by
  refine WC_fn Tryz.f97 (by kernel_rfl) (by kernel_rfl) (by kernel_rfl) (show (_ : Nat) ≤ _ from by show (_ : Nat) ≤ _; simp [Tryz.f97]) ?_
  unfold byteA
  have n1 : (((b.toNat : Int) == 32) = (b.toNat == 32)) := by rw [Bool.eq_iff_iff]; simp; omega
  have n2 : (((b.toNat : Int) == 9) = (b.toNat == 9)) := by rw [Bool.eq_iff_iff]; simp; omega
  have n3 : (((b.toNat : Int) == 10) = (b.toNat == 10)) := by rw [Bool.eq_iff_iff]; simp; omega
  cases h1 : (b.toNat == 32)
  · cases h2 : (b.toNat == 9)
    · have e : isBlank b = (b.toNat == 10) := by unfold isBlank; rw [h1, h2]; rfl
      simp only [thenW_normal, thenW_exit, thenW_ret, thenW_pan, W_skip, W_region, W_drawn, W_seq, W_cond, W_block, W_loop, W_exit, W_ret, seqQ_normal, seqQ_exit, seqQ_ret, seqQ_pan, blockW_normal, blockW_ret, blockW_pan, blockW_exit, WL_nil, WL_cons, execL_no, execL_val, execL_skip, execL_enter, execL_pan, putL_none, putL_some, retL_ret, retL_pan, condW_t, condW_f, wantedA, exec1, evalO, initT, T.get_set, T.get_leaf, callA, mapO, ofOpt, ofOptS, ofConst, e1_P, e1_G, partsA, neNil3, finW_ret, finW_pan, giveW, resultsA, tupA, fb_lss, fb_leq, fb_gtr, fb_geq, fb_add, fb_eqlI, fb_neqI, Nat.reduceLT, Nat.reduceAdd, Nat.reduceEqDiff, if_true, if_false, reduceIte, true_and, and_true, Option.getD_some, List.getElem?_toArray, List.getElem?_cons_succ, List.getElem?_cons_zero, Option.bind_some, List.nil_append, List.append_nil, beq_self_eq_true, Bool.false_eq_true, Bool.true_eq_false, decide_true, decide_false, Bool.not_true, Bool.not_false, Bool.false_beq, Bool.true_beq, Option.toList, List.head?_cons, List.head?_nil, Tryz.f97, neNil5, n1, n2, n3, h1, h2, e]
    · have e : isBlank b = true := by unfold isBlank; rw [h1, h2]; rfl
      simp only [thenW_normal, thenW_exit, thenW_ret, thenW_pan, W_skip, W_region, W_drawn, W_seq, W_cond, W_block, W_loop, W_exit, W_ret, seqQ_normal, seqQ_exit, seqQ_ret, seqQ_pan, blockW_normal, blockW_ret, blockW_pan, blockW_exit, WL_nil, WL_cons, execL_no, execL_val, execL_skip, execL_enter, execL_pan, putL_none, putL_some, retL_ret, retL_pan, condW_t, condW_f, wantedA, exec1, evalO, initT, T.get_set, T.get_leaf, callA, mapO, ofOpt, ofOptS, ofConst, e1_P, e1_G, partsA, neNil3, finW_ret, finW_pan, giveW, resultsA, tupA, fb_lss, fb_leq, fb_gtr, fb_geq, fb_add, fb_eqlI, fb_neqI, Nat.reduceLT, Nat.reduceAdd, Nat.reduceEqDiff, if_true, if_false, reduceIte, true_and, and_true, Option.getD_some, List.getElem?_toArray, List.getElem?_cons_succ, List.getElem?_cons_zero, Option.bind_some, List.nil_append, List.append_nil, beq_self_eq_true, Bool.false_eq_true, Bool.true_eq_false, decide_true, decide_false, Bool.not_true, Bool.not_false, Bool.false_beq, Bool.true_beq, Option.toList, List.head?_cons, List.head?_nil, Tryz.f97, neNil5, n1, n2, n3, h1, h2, e]
  · have e : isBlank b = true := by unfold isBlank; rw [h1]; rfl
    simp only [thenW_normal, thenW_exit, thenW_ret, thenW_pan, W_skip, W_region, W_drawn, W_seq, W_cond, W_block, W_loop, W_exit, W_ret, seqQ_normal, seqQ_exit, seqQ_ret, seqQ_pan, blockW_normal, blockW_ret, blockW_pan, blockW_exit, WL_nil, WL_cons, execL_no, execL_val, execL_skip, execL_enter, execL_pan, putL_none, putL_some, retL_ret, retL_pan, condW_t, condW_f, wantedA, exec1, evalO, initT, T.get_set, T.get_leaf, callA, mapO, ofOpt, ofOptS, ofConst, e1_P, e1_G, partsA, neNil3, finW_ret, finW_pan, giveW, resultsA, tupA, fb_lss, fb_leq, fb_gtr, fb_geq, fb_add, fb_eqlI, fb_neqI, Nat.reduceLT, Nat.reduceAdd, Nat.reduceEqDiff, if_true, if_false, reduceIte, true_and, and_true, Option.getD_some, List.getElem?_toArray, List.getElem?_cons_succ, List.getElem?_cons_zero, Option.bind_some, List.nil_append, List.append_nil, beq_self_eq_true, Bool.false_eq_true, Bool.true_eq_false, decide_true, decide_false, Bool.not_true, Bool.not_false, Bool.false_beq, Bool.true_beq, Option.toList, List.head?_cons, List.head?_nil, Tryz.f97, neNil5, n1, n2, n3, h1, e]
theorem notEnd_w (b : UInt8) (S : St) : WC E1 98 [byteA b] S (fun r => r = .ret (.v (.bool (notEnd b))) S) := by
  refine WC_fn Tryz.f98 (by kernel_rfl) (by kernel_rfl) (by kernel_rfl) (show (_ : Nat) ≤ _ from by show (_ : Nat) ≤ _; simp [Tryz.f98]) ?_
  unfold byteA
  have n3 : (((b.toNat : Int) != 10) = notEnd b) := by unfold notEnd; rw [Bool.eq_iff_iff]; simp; omega
  simp only [thenW_normal, thenW_exit, thenW_ret, thenW_pan, W_skip, W_region, W_drawn, W_seq, W_cond, W_block, W_loop, W_exit, W_ret, seqQ_normal, seqQ_exit, seqQ_ret, seqQ_pan, blockW_normal, blockW_ret, blockW_pan, blockW_exit, WL_nil, WL_cons, execL_no, execL_val, execL_skip, execL_enter, execL_pan, putL_none, putL_some, retL_ret, retL_pan, condW_t, condW_f, wantedA, exec1, evalO, initT, T.get_set, T.get_leaf, callA, mapO, ofOpt, ofOptS, ofConst, e1_P, e1_G, partsA, neNil3, finW_ret, finW_pan, giveW, resultsA, tupA, fb_lss, fb_leq, fb_gtr, fb_geq, fb_add, fb_eqlI, fb_neqI, Nat.reduceLT, Nat.reduceAdd, Nat.reduceEqDiff, if_true, if_false, reduceIte, true_and, and_true, Option.getD_some, List.getElem?_toArray, List.getElem?_cons_succ, List.getElem?_cons_zero, Option.bind_some, List.nil_append, List.append_nil, beq_self_eq_true, Bool.false_eq_true, Bool.true_eq_false, decide_true, decide_false, Bool.not_true, Bool.not_false, Bool.false_beq, Bool.true_beq, Option.toList, List.head?_cons, List.head?_nil, Tryz.f98, neNil5, n3]
theorem letter_w (b : UInt8) (S : St) : WC E1 99 [byteA b] S (fun r => r = .ret (.v (.bool (isLetter b))) S) := by
  refine WC_fn Tryz.f99 (by kernel_rfl) (by kernel_rfl) (by kernel_rfl) (show (_ : Nat) ≤ _ from by show (_ : Nat) ≤ _; simp [Tryz.f99]) ?_
  unfold byteA
  have n5 : (((b.toNat : Int) == 95) = (b.toNat == 95)) := by rw [Bool.eq_iff_iff]; simp; omega
  have key : ∀ (p q : Bool), (65 ≤ b.toNat && b.toNat ≤ 90) = p → (97 ≤ b.toNat && b.toNat ≤ 122) = q → isLetter b = (p || q || b.toNat == 95) := fun p q h1 h2 => by unfold isLetter; rw [h1, h2]
  by_cases h1 : (65 : Int) ≤ (b.toNat : Int)
  · by_cases h2 : (b.toNat : Int) ≤ 90
    · have e := key true (97 ≤ b.toNat && b.toNat ≤ 122) (by simp; omega) rfl
      simp only [Bool.true_or] at e
      simp only [thenW_normal, thenW_exit, thenW_ret, thenW_pan, W_skip, W_region, W_drawn, W_seq, W_cond, W_block, W_loop, W_exit, W_ret, seqQ_normal, seqQ_exit, seqQ_ret, seqQ_pan, blockW_normal, blockW_ret, blockW_pan, blockW_exit, WL_nil, WL_cons, execL_no, execL_val, execL_skip, execL_enter, execL_pan, putL_none, putL_some, retL_ret, retL_pan, condW_t, condW_f, wantedA, exec1, evalO, initT, T.get_set, T.get_leaf, callA, mapO, ofOpt, ofOptS, ofConst, e1_P, e1_G, partsA, neNil3, finW_ret, finW_pan, giveW, resultsA, tupA, fb_lss, fb_leq, fb_gtr, fb_geq, fb_add, fb_eqlI, fb_neqI, Nat.reduceLT, Nat.reduceAdd, Nat.reduceEqDiff, if_true, if_false, reduceIte, true_and, and_true, Option.getD_some, List.getElem?_toArray, List.getElem?_cons_succ, List.getElem?_cons_zero, Option.bind_some, List.nil_append, List.append_nil, beq_self_eq_true, Bool.false_eq_true, Bool.true_eq_false, decide_true, decide_false, Bool.not_true, Bool.not_false, Bool.false_beq, Bool.true_beq, Option.toList, List.head?_cons, List.head?_nil, Tryz.f99, neNil5, n5, h1, h2, e]
    · by_cases h3 : (97 : Int) ≤ (b.toNat : Int)
      · by_cases h4 : (b.toNat : Int) ≤ 122
        · have e := key false true (by simp; omega) (by simp; omega)
          simp only [Bool.or_true, Bool.true_or] at e
          simp only [thenW_normal, thenW_exit, thenW_ret, thenW_pan, W_skip, W_region, W_drawn, W_seq, W_cond, W_block, W_loop, W_exit, W_ret, seqQ_normal, seqQ_exit, seqQ_ret, seqQ_pan, blockW_normal, blockW_ret, blockW_pan, blockW_exit, WL_nil, WL_cons, execL_no, execL_val, execL_skip, execL_enter, execL_pan, putL_none, putL_some, retL_ret, retL_pan, condW_t, condW_f, wantedA, exec1, evalO, initT, T.get_set, T.get_leaf, callA, mapO, ofOpt, ofOptS, ofConst, e1_P, e1_G, partsA, neNil3, finW_ret, finW_pan, giveW, resultsA, tupA, fb_lss, fb_leq, fb_gtr, fb_geq, fb_add, fb_eqlI, fb_neqI, Nat.reduceLT, Nat.reduceAdd, Nat.reduceEqDiff, if_true, if_false, reduceIte, true_and, and_true, Option.getD_some, List.getElem?_toArray, List.getElem?_cons_succ, List.getElem?_cons_zero, Option.bind_some, List.nil_append, List.append_nil, beq_self_eq_true, Bool.false_eq_true, Bool.true_eq_false, decide_true, decide_false, Bool.not_true, Bool.not_false, Bool.false_beq, Bool.true_beq, Option.toList, List.head?_cons, List.head?_nil, Tryz.f99, neNil5, n5, h1, h2, h3, h4, e]
        · have e := key false false (by simp; omega) (by simp; omega)
          simp only [Bool.or_false, Bool.false_or] at e
          simp only [thenW_normal, thenW_exit, thenW_ret, thenW_pan, W_skip, W_region, W_drawn, W_seq, W_cond, W_block, W_loop, W_exit, W_ret, seqQ_normal, seqQ_exit, seqQ_ret, seqQ_pan, blockW_normal, blockW_ret, blockW_pan, blockW_exit, WL_nil, WL_cons, execL_no, execL_val, execL_skip, execL_enter, execL_pan, putL_none, putL_some, retL_ret, retL_pan, condW_t, condW_f, wantedA, exec1, evalO, initT, T.get_set, T.get_leaf, callA, mapO, ofOpt, ofOptS, ofConst, e1_P, e1_G, partsA, neNil3, finW_ret, finW_pan, giveW, resultsA, tupA, fb_lss, fb_leq, fb_gtr, fb_geq, fb_add, fb_eqlI, fb_neqI, Nat.reduceLT, Nat.reduceAdd, Nat.reduceEqDiff, if_true, if_false, reduceIte, true_and, and_true, Option.getD_some, List.getElem?_toArray, List.getElem?_cons_succ, List.getElem?_cons_zero, Option.bind_some, List.nil_append, List.append_nil, beq_self_eq_true, Bool.false_eq_true, Bool.true_eq_false, decide_true, decide_false, Bool.not_true, Bool.not_false, Bool.false_beq, Bool.true_beq, Option.toList, List.head?_cons, List.head?_nil, Tryz.f99, neNil5, n5, h1, h2, h3, h4, e]
      · have e := key false false (by simp; omega) (by simp; omega)
        simp only [Bool.or_false, Bool.false_or] at e
        simp only [thenW_normal, thenW_exit, thenW_ret, thenW_pan, W_skip, W_region, W_drawn, W_seq, W_cond, W_block, W_loop, W_exit, W_ret, seqQ_normal, seqQ_exit, seqQ_ret, seqQ_pan, blockW_normal, blockW_ret, blockW_pan, blockW_exit, WL_nil, WL_cons, execL_no, execL_val, execL_skip, execL_enter, execL_pan, putL_none, putL_some, retL_ret, retL_pan, condW_t, condW_f, wantedA, exec1, evalO, initT, T.get_set, T.get_leaf, callA, mapO, ofOpt, ofOptS, ofConst, e1_P, e1_G, partsA, neNil3, finW_ret, finW_pan, giveW, resultsA, tupA, fb_lss, fb_leq, fb_gtr, fb_geq, fb_add, fb_eqlI, fb_neqI, Nat.reduceLT, Nat.reduceAdd, Nat.reduceEqDiff, if_true, if_false, reduceIte, true_and, and_true, Option.getD_some, List.getElem?_toArray, List.getElem?_cons_succ, List.getElem?_cons_zero, Option.bind_some, List.nil_append, List.append_nil, beq_self_eq_true, Bool.false_eq_true, Bool.true_eq_false, decide_true, decide_false, Bool.not_true, Bool.not_false, Bool.false_beq, Bool.true_beq, Option.toList, List.head?_cons, List.head?_nil, Tryz.f99, neNil5, n5, h1, h2, h3, e]
  · have h3 : ¬ (97 : Int) ≤ (b.toNat : Int) := by omega
    have e := key false false (by simp; omega) (by simp; omega)
    simp only [Bool.or_false, Bool.false_or] at e
    simp only [thenW_normal, thenW_exit, thenW_ret, thenW_pan, W_skip, W_region, W_drawn, W_seq, W_cond, W_block, W_loop, W_exit, W_ret, seqQ_normal, seqQ_exit, seqQ_ret, seqQ_pan, blockW_normal, blockW_ret, blockW_pan, blockW_exit, WL_nil, WL_cons, execL_no, execL_val, execL_skip, execL_enter, execL_pan, putL_none, putL_some, retL_ret, retL_pan, condW_t, condW_f, wantedA, exec1, evalO, initT, T.get_set, T.get_leaf, callA, mapO, ofOpt, ofOptS, ofConst, e1_P, e1_G, partsA, neNil3, finW_ret, finW_pan, giveW, resultsA, tupA, fb_lss, fb_leq, fb_gtr, fb_geq, fb_add, fb_eqlI, fb_neqI, Nat.reduceLT, Nat.reduceAdd, Nat.reduceEqDiff, if_true, if_false, reduceIte, true_and, and_true, Option.getD_some, List.getElem?_toArray, List.getElem?_cons_succ, List.getElem?_cons_zero, Option.bind_some, List.nil_append, List.append_nil, beq_self_eq_true, Bool.false_eq_true, Bool.true_eq_false, decide_true, decide_false, Bool.not_true, Bool.not_false, Bool.false_beq, Bool.true_beq, Option.toList, List.head?_cons, List.head?_nil, Tryz.f99, neNil5, n5, h1, h3, e]
theorem fnOk99 : ∃ fn, E1.F 99 = some fn := Option.isSome_iff_exists.1 (by kernel_rfl)
theorem fnOk101 : ∃ fn, E1.F 101 = some fn := Option.isSome_iff_exists.1 (by kernel_rfl)
theorem wordB_w (b : UInt8) (S : St) : WC E1 131 [byteA b] S (fun r => r = .ret (.v (.bool (isWordB b))) S) := by
  refine WC_fn Tryz.f131 (by kernel_rfl) (by kernel_rfl) (by kernel_rfl) (show (_ : Nat) ≤ _ from by show (_ : Nat) ≤ _; simp [Tryz.f131]) ?_
  obtain ⟨fn1, hf1⟩ := fnOk99
  obtain ⟨fn2, hf2⟩ := fnOk101
  simp only [thenW_normal, thenW_exit, thenW_ret, thenW_pan, W_skip, W_region, W_drawn, W_seq, W_cond, W_block, W_loop, W_exit, W_ret, seqQ_normal, seqQ_exit, seqQ_ret, seqQ_pan, blockW_normal, blockW_ret, blockW_pan, blockW_exit, WL_nil, WL_cons, execL_no, execL_val, execL_skip, execL_enter, execL_pan, putL_none, putL_some, retL_ret, retL_pan, condW_t, condW_f, wantedA, exec1, evalO, initT, T.get_set, T.get_leaf, callA, mapO, ofOpt, ofOptS, ofConst, e1_P, e1_G, partsA, neNil3, finW_ret, finW_pan, giveW, resultsA, tupA, fb_lss, fb_leq, fb_gtr, fb_geq, fb_add, fb_eqlI, fb_neqI, Nat.reduceLT, Nat.reduceAdd, Nat.reduceEqDiff, if_true, if_false, reduceIte, true_and, and_true, Option.getD_some, List.getElem?_toArray, List.getElem?_cons_succ, List.getElem?_cons_zero, Option.bind_some, List.nil_append, List.append_nil, beq_self_eq_true, Bool.false_eq_true, Bool.true_eq_false, decide_true, decide_false, Bool.not_true, Bool.not_false, Bool.false_beq, Bool.true_beq, Option.toList, List.head?_cons, List.head?_nil, Tryz.f131, neNil5, hf1, hf2]
  refine WC.mono (letter_w b S) ?_
  rintro _ rfl
  cases h : isLetter b
  · simp only [thenW_normal, thenW_exit, thenW_ret, thenW_pan, W_skip, W_region, W_drawn, W_seq, W_cond, W_block, W_loop, W_exit, W_ret, seqQ_normal, seqQ_exit, seqQ_ret, seqQ_pan, blockW_normal, blockW_ret, blockW_pan, blockW_exit, WL_nil, WL_cons, execL_no, execL_val, execL_skip, execL_enter, execL_pan, putL_none, putL_some, retL_ret, retL_pan, condW_t, condW_f, wantedA, exec1, evalO, initT, T.get_set, T.get_leaf, callA, mapO, ofOpt, ofOptS, ofConst, e1_P, e1_G, partsA, neNil3, finW_ret, finW_pan, giveW, resultsA, tupA, fb_lss, fb_leq, fb_gtr, fb_geq, fb_add, fb_eqlI, fb_neqI, Nat.reduceLT, Nat.reduceAdd, Nat.reduceEqDiff, if_true, if_false, reduceIte, true_and, and_true, Option.getD_some, List.getElem?_toArray, List.getElem?_cons_succ, List.getElem?_cons_zero, Option.bind_some, List.nil_append, List.append_nil, beq_self_eq_true, Bool.false_eq_true, Bool.true_eq_false, decide_true, decide_false, Bool.not_true, Bool.not_false, Bool.false_beq, Bool.true_beq, Option.toList, List.head?_cons, List.head?_nil, Tryz.f131, neNil5, hf1, hf2]
    refine WC.mono (digit_w b S) ?_
    rintro _ rfl
    have e : isWordB b = isDigit b := by unfold isWordB; rw [h]; rfl
    simp only [thenW_normal, thenW_exit, thenW_ret, thenW_pan, W_skip, W_region, W_drawn, W_seq, W_cond, W_block, W_loop, W_exit, W_ret, seqQ_normal, seqQ_exit, seqQ_ret, seqQ_pan, blockW_normal, blockW_ret, blockW_pan, blockW_exit, WL_nil, WL_cons, execL_no, execL_val, execL_skip, execL_enter, execL_pan, putL_none, putL_some, retL_ret, retL_pan, condW_t, condW_f, wantedA, exec1, evalO, initT, T.get_set, T.get_leaf, callA, mapO, ofOpt, ofOptS, ofConst, e1_P, e1_G, partsA, neNil3, finW_ret, finW_pan, giveW, resultsA, tupA, fb_lss, fb_leq, fb_gtr, fb_geq, fb_add, fb_eqlI, fb_neqI, Nat.reduceLT, Nat.reduceAdd, Nat.reduceEqDiff, if_true, if_false, reduceIte, true_and, and_true, Option.getD_some, List.getElem?_toArray, List.getElem?_cons_succ, List.getElem?_cons_zero, Option.bind_some, List.nil_append, List.append_nil, beq_self_eq_true, Bool.false_eq_true, Bool.true_eq_false, decide_true, decide_false, Bool.not_true, Bool.not_false, Bool.false_beq, Bool.true_beq, Option.toList, List.head?_cons, List.head?_nil, Tryz.f131, neNil5, hf1, hf2, e]
  · have e : isWordB b = true := by unfold isWordB; rw [h]; rfl
    simp only [thenW_normal, thenW_exit, thenW_ret, thenW_pan, W_skip, W_region, W_drawn, W_seq, W_cond, W_block, W_loop, W_exit, W_ret, seqQ_normal, seqQ_exit, seqQ_ret, seqQ_pan, blockW_normal, blockW_ret, blockW_pan, blockW_exit, WL_nil, WL_cons, execL_no, execL_val, execL_skip, execL_enter, execL_pan, putL_none, putL_some, retL_ret, retL_pan, condW_t, condW_f, wantedA, exec1, evalO, initT, T.get_set, T.get_leaf, callA, mapO, ofOpt, ofOptS, ofConst, e1_P, e1_G, partsA, neNil3, finW_ret, finW_pan, giveW, resultsA, tupA, fb_lss, fb_leq, fb_gtr, fb_geq, fb_add, fb_eqlI, fb_neqI, Nat.reduceLT, Nat.reduceAdd, Nat.reduceEqDiff, if_true, if_false, reduceIte, true_and, and_true, Option.getD_some, List.getElem?_toArray, List.getElem?_cons_succ, List.getElem?_cons_zero, Option.bind_some, List.nil_append, List.append_nil, beq_self_eq_true, Bool.false_eq_true, Bool.true_eq_false, decide_true, decide_false, Bool.not_true, Bool.not_false, Bool.false_beq, Bool.true_beq, Option.toList, List.head?_cons, List.head?_nil, Tryz.f131, neNil5, hf1, hf2, e]
end Go.Ax
noncomputable section
namespace Go.Ax
open Go.RowKit Go.Proofs
set_option linter.unusedVariables false
set_option linter.unusedSimpArgs false
set_option maxRecDepth 100000

def strS (l : List UInt8) : AV := .v (.string ⟨⟨l⟩⟩)
def intA (n : Nat) : AV := .v (.int .i64 (n : Int))
theorem wrap_nat {n : Nat} (h : n ≤ 1000000000) : IntKind.i64.wrap (n : Int) = (n : Int) := by
  rw [← wrap64R_eq]
  have : in64 (n : Int) = true := Nat.ble_eq_true_of_le (by omega)
  unfold wrap64R
  rw [this]
theorem wrap_add {i j : Nat} (h : i + j ≤ 1000000000) : IntKind.i64.wrap ((i : Int) + (j : Int)) = ((i + j : Nat) : Int) := by
  rw [← wrap_nat h]; push_cast; rfl
theorem wrap_one {i : Nat} (h : i + 1 ≤ 1000000000) : IntKind.i64.wrap ((i : Int) + 1) = ((i + 1 : Nat) : Int) := wrap_add (j := 1) h
theorem len9 (S : St) (l : List UInt8) : oLen Tryz.prog S 9 (.v (.string ⟨⟨l⟩⟩)) = some l.length := by
  have h : Tryz.prog.underlying 9 = some .string := rfl
  simp only [oLen, h]; rfl
theorem idx9 (l : List UInt8) (i : Nat) (h : i < l.length) : fastIndex Tryz.prog 9 (.v (.string ⟨⟨l⟩⟩)) (.v (.int .i64 (i : Int))) = some (byteA l[i]) := by
  have hu : Tryz.prog.underlying 9 = some .string := rfl
  have h0 : (0 : Int) ≤ (i : Int) := by omega
  simp only [fastIndex, hu, if_pos h0, Int.toNat_natCast, List.getElem?_eq_getElem h]; rfl
def groundX (P : Program) (G : Gl) (f : T AV) (S : St) (o : Oper) : OR := ground P G f S o
def notO (r : OR) (S : St) (x : Option AV) : OR := match x with
  | some (.v (.bool b)) => .val (.v (.bool (!b))) S
  | _ => r
theorem ground_not (f : T AV) (S : St) (dst : Option Tmp) (k : Tmp) (ty : TypeId) (pos : String) (af : Array Edge) (gd : Option (Nat × Bool)) :
    ground Tryz.prog (fun _ => none) f S { dst := dst, op := .unOp .not 4 (.tmp k), type := ty, pos := pos, after := af, guard := gd } = notO (groundX Tryz.prog (fun _ => none) f S { dst := dst, op := .unOp .not 4 (.tmp k), type := ty, pos := pos, after := af, guard := gd }) S (f.get k) := by
  unfold notO
  split
  · rename_i b h
    have hg : groundO (fun _ => none) f (.tmp k) = some (.bool b) := by unfold groundO; simp only [evalO, h]; rfl
    unfold ground
    simp only [Op.operands, List.all_cons, List.all_nil, hg, Option.isSome_some, Bool.and_self, if_true]
    have e : execOp (fun x => (groundO (fun _ => none) f x).getD undef) { dst := dst, op := .unOp .not 4 (.tmp k), type := ty, pos := pos, after := af, guard := gd } = execOp (fun _ => .bool b) { dst := dst, op := .unOp .not 4 (.tmp k), type := ty, pos := pos, after := af, guard := gd } := by
      simp only [execOp, hg, Option.getD_some]
    rw [e]
    cases b <;> rfl
  · rfl
theorem notO_bool (r : OR) (S : St) (b : Bool) : notO r S (some (.v (.bool b))) = .val (.v (.bool (!b))) S := rfl
/-- How many of the first belong. -/
def cnt (p : UInt8 → Bool) : List UInt8 → Nat
  | [] => 0
  | b :: r => if p b then cnt p r + 1 else 0
theorem cnt_le (p : UInt8 → Bool) : ∀ l, cnt p l ≤ l.length
  | [] => Nat.le_refl _
  | b :: r => by
    unfold cnt
    split
    · have := cnt_le p r; simp; omega
    · simp
noncomputable def behindBody : Code := match Tryz.f96.body with
  | some (.seq _ (.seq (.block _ (.loop c)) _)) => c
  | _ => .skip
/-- A test of bytes. -/
structure Test (k : FuncId) (p : UInt8 → Bool) : Prop where
  run : ∀ b S, WC E1 k [byteA b] S (fun r => r = .ret (.v (.bool (p b))) S)
  fn : (E1.F k).isSome = true
set_option maxHeartbeats 4000000 in
theorem behind_loop {k : FuncId} {p : UInt8 → Bool} (hp : Test k p) (l : List UInt8) (hl : l.length ≤ 100000) (S : St) : ∀ (m i : Nat) (t : T AV), i + m = l.length → t.get 0 = some (strS l) → t.get 1 = some (intA i) → t.get 2 = some (.fn (.func k) [] []) →
    WX E1 21 (.loop behindBody) ⟨t, []⟩ S (fun r => ∃ t', r = .out (.exit 0) ⟨t', []⟩ S ∧ t'.get 1 = some (intA (i + cnt p (l.drop i))))
  | 0, i, t, hi, h0, h1, h2 => by
    refine WX_loop (W_sound ?_)
    have hlt : ¬ ((i : Int) < (l.length : Int)) := by omega
    have hd : l.drop i = [] := List.drop_eq_nil_of_le (by omega)
    simp only [strS, intA] at h0 h1 ⊢
    simp only [thenW_normal, thenW_exit, thenW_ret, thenW_pan, W_skip, W_region, W_drawn, W_seq, W_cond, W_block, W_loop, W_exit, W_ret, seqQ_normal, seqQ_exit, seqQ_ret, seqQ_pan, blockW_normal, blockW_ret, blockW_pan, blockW_exit, WL_nil, WL_cons, execL_no, execL_val, execL_skip, execL_enter, execL_pan, putL_none, putL_some, retL_ret, retL_pan, condW_t, condW_f, wantedA, exec1, evalO, initT, T.get_set, T.get_leaf, callA, mapO, ofOpt, ofOptS, ofConst, e1_P, e1_G, partsA, neNil3, finW_ret, finW_pan, giveW, resultsA, tupA, ground_not, notO_bool, fb_lss, fb_leq, fb_gtr, fb_geq, fb_add, fb_eqlI, fb_neqI, Nat.reduceLT, Nat.reduceAdd, Nat.reduceEqDiff, if_true, if_false, reduceIte, true_and, and_true, Option.getD_some, List.getElem?_toArray, List.getElem?_cons_succ, List.getElem?_cons_zero, Option.bind_some, List.nil_append, List.append_nil, beq_self_eq_true, Bool.false_eq_true, Bool.true_eq_false, decide_true, decide_false, Bool.not_true, Bool.not_false, Bool.false_beq, Bool.true_beq, Option.toList, List.head?_cons, List.head?_nil, behindBody, Tryz.f96, h0, h1, h2, len9, hlt]
    exact ⟨_, rfl, by simp only [T.get_set, Nat.reduceEqDiff, if_false, h1, hd, cnt, Nat.add_zero]⟩
  | m + 1, i, t, hi, h0, h1, h2 => by
    refine WX_loop (W_sound ?_)
    have hil : i < l.length := by omega
    have hlt : ((i : Int) < (l.length : Int)) := by omega
    have hd : l.drop i = l[i] :: l.drop (i + 1) := List.drop_eq_getElem_cons hil
    obtain ⟨fn, hfn⟩ := Option.isSome_iff_exists.1 hp.fn
    have hx := idx9 l i hil
    have hw := wrap_one (i := i) (by omega)
    simp only [strS, intA] at h0 h1 ⊢
    simp only [thenW_normal, thenW_exit, thenW_ret, thenW_pan, W_skip, W_region, W_drawn, W_seq, W_cond, W_block, W_loop, W_exit, W_ret, seqQ_normal, seqQ_exit, seqQ_ret, seqQ_pan, blockW_normal, blockW_ret, blockW_pan, blockW_exit, WL_nil, WL_cons, execL_no, execL_val, execL_skip, execL_enter, execL_pan, putL_none, putL_some, retL_ret, retL_pan, condW_t, condW_f, wantedA, exec1, evalO, initT, T.get_set, T.get_leaf, callA, mapO, ofOpt, ofOptS, ofConst, e1_P, e1_G, partsA, neNil3, finW_ret, finW_pan, giveW, resultsA, tupA, ground_not, notO_bool, fb_lss, fb_leq, fb_gtr, fb_geq, fb_add, fb_eqlI, fb_neqI, Nat.reduceLT, Nat.reduceAdd, Nat.reduceEqDiff, if_true, if_false, reduceIte, true_and, and_true, Option.getD_some, List.getElem?_toArray, List.getElem?_cons_succ, List.getElem?_cons_zero, Option.bind_some, List.nil_append, List.append_nil, beq_self_eq_true, Bool.false_eq_true, Bool.true_eq_false, decide_true, decide_false, Bool.not_true, Bool.not_false, Bool.false_beq, Bool.true_beq, Option.toList, List.head?_cons, List.head?_nil, behindBody, Tryz.f96, h0, h1, h2, len9, hlt, hx, hfn]
    refine WC.mono (hp.run l[i] S) ?_
    rintro _ rfl
    cases hb : p l[i]
    · simp only [thenW_normal, thenW_exit, thenW_ret, thenW_pan, W_skip, W_region, W_drawn, W_seq, W_cond, W_block, W_loop, W_exit, W_ret, seqQ_normal, seqQ_exit, seqQ_ret, seqQ_pan, blockW_normal, blockW_ret, blockW_pan, blockW_exit, WL_nil, WL_cons, execL_no, execL_val, execL_skip, execL_enter, execL_pan, putL_none, putL_some, retL_ret, retL_pan, condW_t, condW_f, wantedA, exec1, evalO, initT, T.get_set, T.get_leaf, callA, mapO, ofOpt, ofOptS, ofConst, e1_P, e1_G, partsA, neNil3, finW_ret, finW_pan, giveW, resultsA, tupA, ground_not, notO_bool, fb_lss, fb_leq, fb_gtr, fb_geq, fb_add, fb_eqlI, fb_neqI, Nat.reduceLT, Nat.reduceAdd, Nat.reduceEqDiff, if_true, if_false, reduceIte, true_and, and_true, Option.getD_some, List.getElem?_toArray, List.getElem?_cons_succ, List.getElem?_cons_zero, Option.bind_some, List.nil_append, List.append_nil, beq_self_eq_true, Bool.false_eq_true, Bool.true_eq_false, decide_true, decide_false, Bool.not_true, Bool.not_false, Bool.false_beq, Bool.true_beq, Option.toList, List.head?_cons, List.head?_nil, behindBody, Tryz.f96, h0, h1, h2, len9, hlt, hx, hfn]
      refine ⟨_, rfl, ?_⟩
      have e : cnt p (l.drop i) = 0 := by rw [hd]; unfold cnt; rw [hb]; rfl
      simp only [T.get_set, Nat.reduceEqDiff, if_false, h1, e, Nat.add_zero]
    · simp only [thenW_normal, thenW_exit, thenW_ret, thenW_pan, W_skip, W_region, W_drawn, W_seq, W_cond, W_block, W_loop, W_exit, W_ret, seqQ_normal, seqQ_exit, seqQ_ret, seqQ_pan, blockW_normal, blockW_ret, blockW_pan, blockW_exit, WL_nil, WL_cons, execL_no, execL_val, execL_skip, execL_enter, execL_pan, putL_none, putL_some, retL_ret, retL_pan, condW_t, condW_f, wantedA, exec1, evalO, initT, T.get_set, T.get_leaf, callA, mapO, ofOpt, ofOptS, ofConst, e1_P, e1_G, partsA, neNil3, finW_ret, finW_pan, giveW, resultsA, tupA, ground_not, notO_bool, fb_lss, fb_leq, fb_gtr, fb_geq, fb_add, fb_eqlI, fb_neqI, Nat.reduceLT, Nat.reduceAdd, Nat.reduceEqDiff, if_true, if_false, reduceIte, true_and, and_true, Option.getD_some, List.getElem?_toArray, List.getElem?_cons_succ, List.getElem?_cons_zero, Option.bind_some, List.nil_append, List.append_nil, beq_self_eq_true, Bool.false_eq_true, Bool.true_eq_false, decide_true, decide_false, Bool.not_true, Bool.not_false, Bool.false_beq, Bool.true_beq, Option.toList, List.head?_cons, List.head?_nil, behindBody, Tryz.f96, h0, h1, h2, len9, hlt, hx, hfn, hw]
      have e : cnt p (l.drop i) = cnt p (l.drop (i + 1)) + 1 := by rw [hd, cnt, hb]; rfl
      refine WX.mono (behind_loop hp l hl S m (i + 1) _ (by omega) ?_ ?_ ?_) ?_
      · simp only [T.get_set, Nat.reduceEqDiff, if_false, h0]; rfl
      · simp only [T.get_set, Nat.reduceEqDiff, if_true]; rfl
      · simp only [T.get_set, Nat.reduceEqDiff, if_false, h2]
      · rintro r ⟨t', rfl, h⟩
        refine ⟨t', rfl, ?_⟩
        rw [h, e]
        show some (intA _) = some (intA _)
        congr 2; omega
set_option maxHeartbeats 4000000 in
theorem behind_w {k : FuncId} {p : UInt8 → Bool} (hp : Test k p) (l : List UInt8) (hl : l.length ≤ 100000) (i : Nat) (hi : i ≤ l.length) (S : St) : WC E1 96 [strS l, intA i, .fn (.func k) [] []] S (fun r => r = .ret (intA (i + cnt p (l.drop i))) S) := by
  refine WC_fn Tryz.f96 (by kernel_rfl) (by kernel_rfl) (by kernel_rfl) (show (_ : Nat) ≤ _ from by show (_ : Nat) ≤ _; simp [Tryz.f96]) ?_
  have key := fun t h0 h1 h2 => behind_loop hp l hl S (l.length - i) i t (by omega) h0 h1 h2
  unfold behindBody at key
  simp only [Tryz.f96] at key
  simp only [thenW_normal, thenW_exit, thenW_ret, thenW_pan, W_skip, W_region, W_drawn, W_seq, W_cond, W_block, W_loop, W_exit, W_ret, seqQ_normal, seqQ_exit, seqQ_ret, seqQ_pan, blockW_normal, blockW_ret, blockW_pan, blockW_exit, WL_nil, WL_cons, execL_no, execL_val, execL_skip, execL_enter, execL_pan, putL_none, putL_some, retL_ret, retL_pan, condW_t, condW_f, wantedA, exec1, evalO, initT, T.get_set, T.get_leaf, callA, mapO, ofOpt, ofOptS, ofConst, e1_P, e1_G, partsA, neNil3, finW_ret, finW_pan, giveW, resultsA, tupA, ground_not, notO_bool, fb_lss, fb_leq, fb_gtr, fb_geq, fb_add, fb_eqlI, fb_neqI, Nat.reduceLT, Nat.reduceAdd, Nat.reduceEqDiff, if_true, if_false, reduceIte, true_and, and_true, Option.getD_some, List.getElem?_toArray, List.getElem?_cons_succ, List.getElem?_cons_zero, Option.bind_some, List.nil_append, List.append_nil, beq_self_eq_true, Bool.false_eq_true, Bool.true_eq_false, decide_true, decide_false, Bool.not_true, Bool.not_false, Bool.false_beq, Bool.true_beq, Option.toList, List.head?_cons, List.head?_nil, Tryz.f96]
  refine WX.mono (key _ ?_ ?_ ?_) ?_
  · simp only [T.get_set, T.get_leaf, Nat.reduceEqDiff, if_true, if_false]
  · simp only [T.get_set, T.get_leaf, Nat.reduceEqDiff, if_true, if_false]
  · simp only [T.get_set, T.get_leaf, Nat.reduceEqDiff, if_true, if_false]
  · rintro r ⟨t', rfl, h⟩
    simp only [thenW_normal, thenW_exit, thenW_ret, thenW_pan, W_skip, W_region, W_drawn, W_seq, W_cond, W_block, W_loop, W_exit, W_ret, seqQ_normal, seqQ_exit, seqQ_ret, seqQ_pan, blockW_normal, blockW_ret, blockW_pan, blockW_exit, WL_nil, WL_cons, execL_no, execL_val, execL_skip, execL_enter, execL_pan, putL_none, putL_some, retL_ret, retL_pan, condW_t, condW_f, wantedA, exec1, evalO, initT, T.get_set, T.get_leaf, callA, mapO, ofOpt, ofOptS, ofConst, e1_P, e1_G, partsA, neNil3, finW_ret, finW_pan, giveW, resultsA, tupA, ground_not, notO_bool, fb_lss, fb_leq, fb_gtr, fb_geq, fb_add, fb_eqlI, fb_neqI, Nat.reduceLT, Nat.reduceAdd, Nat.reduceEqDiff, if_true, if_false, reduceIte, true_and, and_true, Option.getD_some, List.getElem?_toArray, List.getElem?_cons_succ, List.getElem?_cons_zero, Option.bind_some, List.nil_append, List.append_nil, beq_self_eq_true, Bool.false_eq_true, Bool.true_eq_false, decide_true, decide_false, Bool.not_true, Bool.not_false, Bool.false_beq, Bool.true_beq, Option.toList, List.head?_cons, List.head?_nil, h]
theorem blankT : Test 97 isBlank := ⟨blank_w, by kernel_rfl⟩
theorem notEndT : Test 98 notEnd := ⟨notEnd_w, by kernel_rfl⟩
theorem digitT : Test 101 isDigit := ⟨digit_w, by kernel_rfl⟩
theorem wordBT : Test 131 isWordB := ⟨wordB_w, by kernel_rfl⟩
end Go.Ax
noncomputable section
namespace Go.Ax
open Go.RowKit Go.Proofs
set_option linter.unusedVariables false
set_option linter.unusedSimpArgs false
set_option maxRecDepth 100000

theorem sl9_from (l : List UInt8) (i : Nat) (h : i ≤ l.length) : fastSlice Tryz.prog 9 (.v (.string ⟨⟨l⟩⟩)) (some (.v (.int .i64 (i : Int)))) none = some (.v (.string ⟨⟨l.drop i⟩⟩)) := by
  have hu : Tryz.prog.underlying 9 = some .string := rfl
  have h0 : (0 : Int) ≤ (i : Int) := by omega
  have hs : (⟨⟨l⟩⟩ : ByteArray).size = l.length := rfl
  simp only [fastSlice, hu, boundA, if_pos h0, Int.toNat_natCast, hs]
  rw [Nat.ble_eq_true_of_le h, Nat.ble_eq_true_of_le (Nat.le_refl _)]
  show some (AV.v (.string ⟨⟨(l.drop i).take (l.length - i)⟩⟩)) = _
  rw [List.take_of_length_le (by simp)]
theorem sl9_to (l : List UInt8) (j : Nat) (h : j ≤ l.length) : fastSlice Tryz.prog 9 (.v (.string ⟨⟨l⟩⟩)) none (some (.v (.int .i64 (j : Int)))) = some (.v (.string ⟨⟨l.take j⟩⟩)) := by
  have hu : Tryz.prog.underlying 9 = some .string := rfl
  have h0 : (0 : Int) ≤ (j : Int) := by omega
  have hs : (⟨⟨l⟩⟩ : ByteArray).size = l.length := rfl
  simp only [fastSlice, hu, boundA, if_pos h0, Int.toNat_natCast, hs]
  rw [Nat.ble_eq_true_of_le (Nat.zero_le _), Nat.ble_eq_true_of_le h]
  rfl
theorem sl9_both (l : List UInt8) (i j : Nat) (hi : i ≤ j) (h : j ≤ l.length) : fastSlice Tryz.prog 9 (.v (.string ⟨⟨l⟩⟩)) (some (.v (.int .i64 (i : Int)))) (some (.v (.int .i64 (j : Int)))) = some (.v (.string ⟨⟨(l.drop i).take (j - i)⟩⟩)) := by
  have hu : Tryz.prog.underlying 9 = some .string := rfl
  have h0 : (0 : Int) ≤ (i : Int) := by omega
  have h1 : (0 : Int) ≤ (j : Int) := by omega
  have hs : (⟨⟨l⟩⟩ : ByteArray).size = l.length := rfl
  simp only [fastSlice, hu, boundA, if_pos h0, if_pos h1, Int.toNat_natCast, hs]
  rw [Nat.ble_eq_true_of_le hi, Nat.ble_eq_true_of_le h]
  rfl
theorem fb_eqS (l m : List UInt8) : fastBin .eql (.v (.string ⟨⟨l⟩⟩)) (.v (.string ⟨⟨m⟩⟩)) = some (.v (.bool (decide (l = m)))) := by
  simp only [fastBin, eqBytes_eq]
  have e : (l == m) = decide (l = m) := by rw [Bool.eq_iff_iff]; simp
  show some (AV.v (.bool (l == m))) = _
  rw [e]
theorem neNil9 (a b : AV) : neNil Tryz.prog 9 a b = false := by
  have h : Tryz.prog.underlying 9 = some .string := rfl
  unfold neNil; rw [h]
/-- Does a text begin so? -/
def startsW (pre l : List UInt8) : Bool := decide (l.take pre.length = pre)
set_option maxHeartbeats 4000000 in
theorem pre122_w (l pre : List UInt8) (S : St) : WC E1 122 [strS l, strS pre] S (fun r => r = .ret (.v (.bool (startsW pre l))) S) := by
  refine WC_fn Tryz.f122 (by kernel_rfl) (by kernel_rfl) (by kernel_rfl) (show (_ : Nat) ≤ _ from by show (_ : Nat) ≤ _; simp [Tryz.f122]) ?_
  unfold strS
  by_cases h : (pre.length : Int) ≤ (l.length : Int)
  · have hs := sl9_to l pre.length (by omega)
    simp only [thenW_normal, thenW_exit, thenW_ret, thenW_pan, W_skip, W_region, W_drawn, W_seq, W_cond, W_block, W_loop, W_exit, W_ret, seqQ_normal, seqQ_exit, seqQ_ret, seqQ_pan, blockW_normal, blockW_ret, blockW_pan, blockW_exit, WL_nil, WL_cons, execL_no, execL_val, execL_skip, execL_enter, execL_pan, putL_none, putL_some, retL_ret, retL_pan, condW_t, condW_f, wantedA, exec1, evalO, initT, T.get_set, T.get_leaf, callA, mapO, ofOpt, ofOptS, ofConst, e1_P, e1_G, partsA, neNil3, finW_ret, finW_pan, giveW, resultsA, tupA, ground_not, notO_bool, fb_lss, fb_leq, fb_gtr, fb_geq, fb_add, fb_eqlI, fb_neqI, Nat.reduceLT, Nat.reduceAdd, Nat.reduceEqDiff, if_true, if_false, reduceIte, true_and, and_true, Option.getD_some, List.getElem?_toArray, List.getElem?_cons_succ, List.getElem?_cons_zero, Option.bind_some, List.nil_append, List.append_nil, beq_self_eq_true, Bool.false_eq_true, Bool.true_eq_false, decide_true, decide_false, Bool.not_true, Bool.not_false, Bool.false_beq, Bool.true_beq, Option.toList, List.head?_cons, List.head?_nil, Tryz.f122, len9, h, ge_iff_le, hs, fb_eqS, neNil9, startsW]
  · have e : startsW pre l = false := by
      unfold startsW
      rw [decide_eq_false_iff_not]; intro hq
      have := congrArg List.length hq
      simp at this; omega
    simp only [thenW_normal, thenW_exit, thenW_ret, thenW_pan, W_skip, W_region, W_drawn, W_seq, W_cond, W_block, W_loop, W_exit, W_ret, seqQ_normal, seqQ_exit, seqQ_ret, seqQ_pan, blockW_normal, blockW_ret, blockW_pan, blockW_exit, WL_nil, WL_cons, execL_no, execL_val, execL_skip, execL_enter, execL_pan, putL_none, putL_some, retL_ret, retL_pan, condW_t, condW_f, wantedA, exec1, evalO, initT, T.get_set, T.get_leaf, callA, mapO, ofOpt, ofOptS, ofConst, e1_P, e1_G, partsA, neNil3, finW_ret, finW_pan, giveW, resultsA, tupA, ground_not, notO_bool, fb_lss, fb_leq, fb_gtr, fb_geq, fb_add, fb_eqlI, fb_neqI, Nat.reduceLT, Nat.reduceAdd, Nat.reduceEqDiff, if_true, if_false, reduceIte, true_and, and_true, Option.getD_some, List.getElem?_toArray, List.getElem?_cons_succ, List.getElem?_cons_zero, Option.bind_some, List.nil_append, List.append_nil, beq_self_eq_true, Bool.false_eq_true, Bool.true_eq_false, decide_true, decide_false, Bool.not_true, Bool.not_false, Bool.false_beq, Bool.true_beq, Option.toList, List.head?_cons, List.head?_nil, Tryz.f122, len9, h, ge_iff_le, fb_eqS, neNil9, e]
theorem fnOk122 : ∃ fn, E1.F 122 = some fn := Option.isSome_iff_exists.1 (by kernel_rfl)
theorem pre_w (l pre : List UInt8) (S : St) : WC E1 85 [strS l, strS pre] S (fun r => r = .ret (.v (.bool (startsW pre l))) S) := by
  refine WC_fn Tryz.f85 (by kernel_rfl) (by kernel_rfl) (by kernel_rfl) (show (_ : Nat) ≤ _ from by show (_ : Nat) ≤ _; simp [Tryz.f85]) ?_
  obtain ⟨fn1, hf1⟩ := fnOk122
  simp only [thenW_normal, thenW_exit, thenW_ret, thenW_pan, W_skip, W_region, W_drawn, W_seq, W_cond, W_block, W_loop, W_exit, W_ret, seqQ_normal, seqQ_exit, seqQ_ret, seqQ_pan, blockW_normal, blockW_ret, blockW_pan, blockW_exit, WL_nil, WL_cons, execL_no, execL_val, execL_skip, execL_enter, execL_pan, putL_none, putL_some, retL_ret, retL_pan, condW_t, condW_f, wantedA, exec1, evalO, initT, T.get_set, T.get_leaf, callA, mapO, ofOpt, ofOptS, ofConst, e1_P, e1_G, partsA, neNil3, finW_ret, finW_pan, giveW, resultsA, tupA, ground_not, notO_bool, fb_lss, fb_leq, fb_gtr, fb_geq, fb_add, fb_eqlI, fb_neqI, Nat.reduceLT, Nat.reduceAdd, Nat.reduceEqDiff, if_true, if_false, reduceIte, true_and, and_true, Option.getD_some, List.getElem?_toArray, List.getElem?_cons_succ, List.getElem?_cons_zero, Option.bind_some, List.nil_append, List.append_nil, beq_self_eq_true, Bool.false_eq_true, Bool.true_eq_false, decide_true, decide_false, Bool.not_true, Bool.not_false, Bool.false_beq, Bool.true_beq, Option.toList, List.head?_cons, List.head?_nil, Tryz.f85, hf1]
  refine WC.mono (pre122_w l pre S) ?_
  rintro _ rfl
  simp only [thenW_normal, thenW_exit, thenW_ret, thenW_pan, W_skip, W_region, W_drawn, W_seq, W_cond, W_block, W_loop, W_exit, W_ret, seqQ_normal, seqQ_exit, seqQ_ret, seqQ_pan, blockW_normal, blockW_ret, blockW_pan, blockW_exit, WL_nil, WL_cons, execL_no, execL_val, execL_skip, execL_enter, execL_pan, putL_none, putL_some, retL_ret, retL_pan, condW_t, condW_f, wantedA, exec1, evalO, initT, T.get_set, T.get_leaf, callA, mapO, ofOpt, ofOptS, ofConst, e1_P, e1_G, partsA, neNil3, finW_ret, finW_pan, giveW, resultsA, tupA, ground_not, notO_bool, fb_lss, fb_leq, fb_gtr, fb_geq, fb_add, fb_eqlI, fb_neqI, Nat.reduceLT, Nat.reduceAdd, Nat.reduceEqDiff, if_true, if_false, reduceIte, true_and, and_true, Option.getD_some, List.getElem?_toArray, List.getElem?_cons_succ, List.getElem?_cons_zero, Option.bind_some, List.nil_append, List.append_nil, beq_self_eq_true, Bool.false_eq_true, Bool.true_eq_false, decide_true, decide_false, Bool.not_true, Bool.not_false, Bool.false_beq, Bool.true_beq, Option.toList, List.head?_cons, List.head?_nil, Tryz.f85]
theorem e69 : elemT Tryz.prog 69 = some (none, 9) := by kernel_rfl
theorem u69 : Tryz.prog.underlying 69 = some (.slice 9) := by kernel_rfl
theorem s9 : sizeT Tryz.prog 9 = some 1 := by kernel_rfl
theorem a9 : isAggT Tryz.prog 9 = some false := by kernel_rfl
theorem len69 (S : St) (tok off : Nat) (es : List AV) : oLen Tryz.prog S 69 (.sl tok off 1 es) = some es.length := by simp [oLen, u69]
theorem idx69 (tok off : Nat) (ws : List (List UInt8)) (i : Nat) (h : i < ws.length) : oIndexAddr Tryz.prog 69 (.sl tok off 1 (ws.map strS)) (.v (.int .i64 (i : Int))) = some (.ep [strS ws[i]]) := by
  have h0 : (0 : Int) ≤ (i : Int) := by omega
  simp [oIndexAddr, h0, e69, s9, h, strS, AV.cells]
theorem load9 (S : St) (x : AV) : oLoad Tryz.prog S 9 (.ep [x]) = some x := by simp [oLoad, behind, a9]
noncomputable def indexBody : Code := match Tryz.f160.body with
  | some (.seq _ (.seq (.seq _ (.block _ (.loop c))) _)) => c
  | _ => .skip
set_option maxHeartbeats 4000000 in
theorem index_loop (tok off : Nat) (ws : List (List UInt8)) (s : List UInt8) (hl : ws.length ≤ 100000) (S : St) : ∀ (m i : Nat) (t : T AV), i + m = ws.length → t.get 0 = some (.sl tok off 1 (ws.map strS)) → t.get 1 = some (strS s) → t.get 7 = some (intA ws.length) → t.get 8 = some (intA i) →
    WX E1 19 (.loop indexBody) ⟨t, []⟩ S (fun r => ∃ t', (r = .out (.exit 0) ⟨t', []⟩ S ∧ s ∉ ws.drop i) ∨ (∃ j : Nat, r = .out .ret ⟨t', []⟩ S ∧ t'.get 4 = some (intA j) ∧ s ∈ ws.drop i))
  | 0, i, t, hi, h0, h1, h7, h8 => by
    refine WX_loop (W_sound ?_)
    have hlt : ¬ ((i : Int) < (ws.length : Int)) := by omega
    have hd : ws.drop i = [] := List.drop_eq_nil_of_le (by omega)
    simp only [strS, intA] at h0 h1 h7 h8 ⊢
    simp only [thenW_normal, thenW_exit, thenW_ret, thenW_pan, W_skip, W_region, W_drawn, W_seq, W_cond, W_block, W_loop, W_exit, W_ret, seqQ_normal, seqQ_exit, seqQ_ret, seqQ_pan, blockW_normal, blockW_ret, blockW_pan, blockW_exit, WL_nil, WL_cons, execL_no, execL_val, execL_skip, execL_enter, execL_pan, putL_none, putL_some, retL_ret, retL_pan, condW_t, condW_f, wantedA, exec1, evalO, initT, T.get_set, T.get_leaf, callA, mapO, ofOpt, ofOptS, ofConst, e1_P, e1_G, partsA, neNil3, finW_ret, finW_pan, giveW, resultsA, tupA, ground_not, notO_bool, fb_lss, fb_leq, fb_gtr, fb_geq, fb_add, fb_eqlI, fb_neqI, Nat.reduceLT, Nat.reduceAdd, Nat.reduceEqDiff, if_true, if_false, reduceIte, true_and, and_true, Option.getD_some, List.getElem?_toArray, List.getElem?_cons_succ, List.getElem?_cons_zero, Option.bind_some, List.nil_append, List.append_nil, beq_self_eq_true, Bool.false_eq_true, Bool.true_eq_false, decide_true, decide_false, Bool.not_true, Bool.not_false, Bool.false_beq, Bool.true_beq, Option.toList, List.head?_cons, List.head?_nil, indexBody, Tryz.f160, h0, h1, h7, h8, hlt]
    exact ⟨_, .inl ⟨rfl, by rw [hd]; exact List.not_mem_nil⟩⟩
  | m + 1, i, t, hi, h0, h1, h7, h8 => by
    refine WX_loop (W_sound ?_)
    have hil : i < ws.length := by omega
    have hlt : ((i : Int) < (ws.length : Int)) := by omega
    have hd : ws.drop i = ws[i] :: ws.drop (i + 1) := List.drop_eq_getElem_cons hil
    have hx := idx69 tok off ws i hil
    have hw := wrap_one (i := i) (by omega)
    have hq := fb_eqS s ws[i]
    simp only [strS, intA] at h0 h1 h7 h8 hx ⊢
    by_cases he : s = ws[i]
    · rw [decide_eq_true he] at hq
      simp only [thenW_normal, thenW_exit, thenW_ret, thenW_pan, W_skip, W_region, W_drawn, W_seq, W_cond, W_block, W_loop, W_exit, W_ret, seqQ_normal, seqQ_exit, seqQ_ret, seqQ_pan, blockW_normal, blockW_ret, blockW_pan, blockW_exit, WL_nil, WL_cons, execL_no, execL_val, execL_skip, execL_enter, execL_pan, putL_none, putL_some, retL_ret, retL_pan, condW_t, condW_f, wantedA, exec1, evalO, initT, T.get_set, T.get_leaf, callA, mapO, ofOpt, ofOptS, ofConst, e1_P, e1_G, partsA, neNil3, finW_ret, finW_pan, giveW, resultsA, tupA, ground_not, notO_bool, fb_lss, fb_leq, fb_gtr, fb_geq, fb_add, fb_eqlI, fb_neqI, Nat.reduceLT, Nat.reduceAdd, Nat.reduceEqDiff, if_true, if_false, reduceIte, true_and, and_true, Option.getD_some, List.getElem?_toArray, List.getElem?_cons_succ, List.getElem?_cons_zero, Option.bind_some, List.nil_append, List.append_nil, beq_self_eq_true, Bool.false_eq_true, Bool.true_eq_false, decide_true, decide_false, Bool.not_true, Bool.not_false, Bool.false_beq, Bool.true_beq, Option.toList, List.head?_cons, List.head?_nil, indexBody, Tryz.f160, h0, h1, h7, h8, hlt, hx, load9, neNil9, hq]
      exact ⟨_, .inr ⟨i, rfl, by simp only [T.get_set, Nat.reduceEqDiff, if_true], by rw [hd, he]; exact List.mem_cons_self ..⟩⟩
    · rw [decide_eq_false he] at hq
      simp only [thenW_normal, thenW_exit, thenW_ret, thenW_pan, W_skip, W_region, W_drawn, W_seq, W_cond, W_block, W_loop, W_exit, W_ret, seqQ_normal, seqQ_exit, seqQ_ret, seqQ_pan, blockW_normal, blockW_ret, blockW_pan, blockW_exit, WL_nil, WL_cons, execL_no, execL_val, execL_skip, execL_enter, execL_pan, putL_none, putL_some, retL_ret, retL_pan, condW_t, condW_f, wantedA, exec1, evalO, initT, T.get_set, T.get_leaf, callA, mapO, ofOpt, ofOptS, ofConst, e1_P, e1_G, partsA, neNil3, finW_ret, finW_pan, giveW, resultsA, tupA, ground_not, notO_bool, fb_lss, fb_leq, fb_gtr, fb_geq, fb_add, fb_eqlI, fb_neqI, Nat.reduceLT, Nat.reduceAdd, Nat.reduceEqDiff, if_true, if_false, reduceIte, true_and, and_true, Option.getD_some, List.getElem?_toArray, List.getElem?_cons_succ, List.getElem?_cons_zero, Option.bind_some, List.nil_append, List.append_nil, beq_self_eq_true, Bool.false_eq_true, Bool.true_eq_false, decide_true, decide_false, Bool.not_true, Bool.not_false, Bool.false_beq, Bool.true_beq, Option.toList, List.head?_cons, List.head?_nil, indexBody, Tryz.f160, h0, h1, h7, h8, hlt, hx, load9, neNil9, hq, hw]
      refine WX.mono (index_loop tok off ws s hl S m (i + 1) _ (by omega) ?_ ?_ ?_ ?_) ?_
      · simp only [T.get_set, Nat.reduceEqDiff, if_false, h0]
      · simp only [T.get_set, Nat.reduceEqDiff, if_false, h1]; rfl
      · simp only [T.get_set, Nat.reduceEqDiff, if_false, h7]; rfl
      · simp only [T.get_set, Nat.reduceEqDiff, if_true]; rfl
      · rintro r ⟨t', ⟨rfl, h⟩ | ⟨j, rfl, h, hm⟩⟩
        · exact ⟨t', .inl ⟨rfl, by rw [hd]; exact fun hc => (List.mem_cons.1 hc).elim he h⟩⟩
        · exact ⟨t', .inr ⟨j, rfl, h, by rw [hd]; exact List.mem_cons_of_mem _ hm⟩⟩
theorem index_w (tok off : Nat) (ws : List (List UInt8)) (s : List UInt8) (hl : ws.length ≤ 100000) (S : St) : WC E1 160 [.sl tok off 1 (ws.map strS), strS s] S (fun r => ∃ x : Int, r = .ret (.v (.int .i64 x)) S ∧ (decide (0 ≤ x) = decide (s ∈ ws))) := by
  refine WC_fn Tryz.f160 (by kernel_rfl) (by kernel_rfl) (by kernel_rfl) (show (_ : Nat) ≤ _ from by show (_ : Nat) ≤ _; simp [Tryz.f160]) ?_
  have key := fun t h0 h1 h7 h8 => index_loop tok off ws s hl S ws.length 0 t (by omega) h0 h1 h7 h8
  unfold indexBody at key
  simp only [Tryz.f160] at key
  have hL := len69 S tok off (ws.map strS)
  rw [List.length_map] at hL
  simp only [thenW_normal, thenW_exit, thenW_ret, thenW_pan, W_skip, W_region, W_drawn, W_seq, W_cond, W_block, W_loop, W_exit, W_ret, seqQ_normal, seqQ_exit, seqQ_ret, seqQ_pan, blockW_normal, blockW_ret, blockW_pan, blockW_exit, WL_nil, WL_cons, execL_no, execL_val, execL_skip, execL_enter, execL_pan, putL_none, putL_some, retL_ret, retL_pan, condW_t, condW_f, wantedA, exec1, evalO, initT, T.get_set, T.get_leaf, callA, mapO, ofOpt, ofOptS, ofConst, e1_P, e1_G, partsA, neNil3, finW_ret, finW_pan, giveW, resultsA, tupA, ground_not, notO_bool, fb_lss, fb_leq, fb_gtr, fb_geq, fb_add, fb_eqlI, fb_neqI, Nat.reduceLT, Nat.reduceAdd, Nat.reduceEqDiff, if_true, if_false, reduceIte, true_and, and_true, Option.getD_some, List.getElem?_toArray, List.getElem?_cons_succ, List.getElem?_cons_zero, Option.bind_some, List.nil_append, List.append_nil, beq_self_eq_true, Bool.false_eq_true, Bool.true_eq_false, decide_true, decide_false, Bool.not_true, Bool.not_false, Bool.false_beq, Bool.true_beq, Option.toList, List.head?_cons, List.head?_nil, Tryz.f160, hL]
  refine WX.mono (key _ ?_ ?_ ?_ ?_) ?_
  · simp only [T.get_set, T.get_leaf, Nat.reduceEqDiff, if_true, if_false]
  · simp only [T.get_set, T.get_leaf, Nat.reduceEqDiff, if_true, if_false]
  · simp only [T.get_set, T.get_leaf, Nat.reduceEqDiff, if_true, if_false]; rfl
  · simp only [T.get_set, T.get_leaf, Nat.reduceEqDiff, if_true, if_false]; rfl
  · rintro r ⟨t', ⟨rfl, h⟩ | ⟨j, rfl, h, hm⟩⟩
    · simp only [thenW_normal, thenW_exit, thenW_ret, thenW_pan, W_skip, W_region, W_drawn, W_seq, W_cond, W_block, W_loop, W_exit, W_ret, seqQ_normal, seqQ_exit, seqQ_ret, seqQ_pan, blockW_normal, blockW_ret, blockW_pan, blockW_exit, WL_nil, WL_cons, execL_no, execL_val, execL_skip, execL_enter, execL_pan, putL_none, putL_some, retL_ret, retL_pan, condW_t, condW_f, wantedA, exec1, evalO, initT, T.get_set, T.get_leaf, callA, mapO, ofOpt, ofOptS, ofConst, e1_P, e1_G, partsA, neNil3, finW_ret, finW_pan, giveW, resultsA, tupA, ground_not, notO_bool, fb_lss, fb_leq, fb_gtr, fb_geq, fb_add, fb_eqlI, fb_neqI, Nat.reduceLT, Nat.reduceAdd, Nat.reduceEqDiff, if_true, if_false, reduceIte, true_and, and_true, Option.getD_some, List.getElem?_toArray, List.getElem?_cons_succ, List.getElem?_cons_zero, Option.bind_some, List.nil_append, List.append_nil, beq_self_eq_true, Bool.false_eq_true, Bool.true_eq_false, decide_true, decide_false, Bool.not_true, Bool.not_false, Bool.false_beq, Bool.true_beq, Option.toList, List.head?_cons, List.head?_nil, h]
      refine ⟨_, rfl, ?_⟩
      rw [List.drop_zero] at h
      rw [decide_eq_false h]; rfl
    · unfold intA at h
      simp only [thenW_normal, thenW_exit, thenW_ret, thenW_pan, W_skip, W_region, W_drawn, W_seq, W_cond, W_block, W_loop, W_exit, W_ret, seqQ_normal, seqQ_exit, seqQ_ret, seqQ_pan, blockW_normal, blockW_ret, blockW_pan, blockW_exit, WL_nil, WL_cons, execL_no, execL_val, execL_skip, execL_enter, execL_pan, putL_none, putL_some, retL_ret, retL_pan, condW_t, condW_f, wantedA, exec1, evalO, initT, T.get_set, T.get_leaf, callA, mapO, ofOpt, ofOptS, ofConst, e1_P, e1_G, partsA, neNil3, finW_ret, finW_pan, giveW, resultsA, tupA, ground_not, notO_bool, fb_lss, fb_leq, fb_gtr, fb_geq, fb_add, fb_eqlI, fb_neqI, Nat.reduceLT, Nat.reduceAdd, Nat.reduceEqDiff, if_true, if_false, reduceIte, true_and, and_true, Option.getD_some, List.getElem?_toArray, List.getElem?_cons_succ, List.getElem?_cons_zero, Option.bind_some, List.nil_append, List.append_nil, beq_self_eq_true, Bool.false_eq_true, Bool.true_eq_false, decide_true, decide_false, Bool.not_true, Bool.not_false, Bool.false_beq, Bool.true_beq, Option.toList, List.head?_cons, List.head?_nil, h]
      refine ⟨_, rfl, ?_⟩
      rw [List.drop_zero] at hm
      rw [decide_eq_true hm, decide_eq_true (show (0 : Int) ≤ (j : Int) by omega)]
theorem fnOk160 : ∃ fn, E1.F 160 = some fn := Option.isSome_iff_exists.1 (by kernel_rfl)
theorem contains_w (tok off : Nat) (ws : List (List UInt8)) (s : List UInt8) (hl : ws.length ≤ 100000) (S : St) : WC E1 129 [.sl tok off 1 (ws.map strS), strS s] S (fun r => r = .ret (.v (.bool (decide (s ∈ ws)))) S) := by
  refine WC_fn Tryz.f129 (by kernel_rfl) (by kernel_rfl) (by kernel_rfl) (show (_ : Nat) ≤ _ from by show (_ : Nat) ≤ _; simp [Tryz.f129]) ?_
  obtain ⟨fn1, hf1⟩ := fnOk160
  simp only [thenW_normal, thenW_exit, thenW_ret, thenW_pan, W_skip, W_region, W_drawn, W_seq, W_cond, W_block, W_loop, W_exit, W_ret, seqQ_normal, seqQ_exit, seqQ_ret, seqQ_pan, blockW_normal, blockW_ret, blockW_pan, blockW_exit, WL_nil, WL_cons, execL_no, execL_val, execL_skip, execL_enter, execL_pan, putL_none, putL_some, retL_ret, retL_pan, condW_t, condW_f, wantedA, exec1, evalO, initT, T.get_set, T.get_leaf, callA, mapO, ofOpt, ofOptS, ofConst, e1_P, e1_G, partsA, neNil3, finW_ret, finW_pan, giveW, resultsA, tupA, ground_not, notO_bool, fb_lss, fb_leq, fb_gtr, fb_geq, fb_add, fb_eqlI, fb_neqI, Nat.reduceLT, Nat.reduceAdd, Nat.reduceEqDiff, if_true, if_false, reduceIte, true_and, and_true, Option.getD_some, List.getElem?_toArray, List.getElem?_cons_succ, List.getElem?_cons_zero, Option.bind_some, List.nil_append, List.append_nil, beq_self_eq_true, Bool.false_eq_true, Bool.true_eq_false, decide_true, decide_false, Bool.not_true, Bool.not_false, Bool.false_beq, Bool.true_beq, Option.toList, List.head?_cons, List.head?_nil, Tryz.f129, hf1]
  refine WC.mono (index_w tok off ws s hl S) ?_
  rintro _ ⟨x, rfl, hx⟩
  simp only [thenW_normal, thenW_exit, thenW_ret, thenW_pan, W_skip, W_region, W_drawn, W_seq, W_cond, W_block, W_loop, W_exit, W_ret, seqQ_normal, seqQ_exit, seqQ_ret, seqQ_pan, blockW_normal, blockW_ret, blockW_pan, blockW_exit, WL_nil, WL_cons, execL_no, execL_val, execL_skip, execL_enter, execL_pan, putL_none, putL_some, retL_ret, retL_pan, condW_t, condW_f, wantedA, exec1, evalO, initT, T.get_set, T.get_leaf, callA, mapO, ofOpt, ofOptS, ofConst, e1_P, e1_G, partsA, neNil3, finW_ret, finW_pan, giveW, resultsA, tupA, ground_not, notO_bool, fb_lss, fb_leq, fb_gtr, fb_geq, fb_add, fb_eqlI, fb_neqI, Nat.reduceLT, Nat.reduceAdd, Nat.reduceEqDiff, if_true, if_false, reduceIte, true_and, and_true, Option.getD_some, List.getElem?_toArray, List.getElem?_cons_succ, List.getElem?_cons_zero, Option.bind_some, List.nil_append, List.append_nil, beq_self_eq_true, Bool.false_eq_true, Bool.true_eq_false, decide_true, decide_false, Bool.not_true, Bool.not_false, Bool.false_beq, Bool.true_beq, Option.toList, List.head?_cons, List.head?_nil, Tryz.f129, ge_iff_le, hx]
/-- How many bytes are skipped: blanks, remarks. -/
def skipF : Nat → List UInt8 → Nat
  | 0, _ => 0
  | n + 1, l => if startsW [45, 45] (l.drop (cnt isBlank l)) then cnt isBlank l + (cnt notEnd (l.drop (cnt isBlank l)) + skipF n (l.drop (cnt isBlank l + cnt notEnd (l.drop (cnt isBlank l))))) else cnt isBlank l
theorem skipF_succ (n : Nat) (l : List UInt8) : skipF (n + 1) l = if startsW [45, 45] (l.drop (cnt isBlank l)) then cnt isBlank l + (cnt notEnd (l.drop (cnt isBlank l)) + skipF n (l.drop (cnt isBlank l + cnt notEnd (l.drop (cnt isBlank l))))) else cnt isBlank l := rfl
theorem skipF_le : ∀ (n : Nat) (l : List UInt8), skipF n l ≤ l.length
  | 0, l => Nat.zero_le _
  | n + 1, l => by
    have h1 := cnt_le isBlank l
    have h2 := cnt_le notEnd (l.drop (cnt isBlank l))
    have h3 := skipF_le n (l.drop (cnt isBlank l + cnt notEnd (l.drop (cnt isBlank l))))
    unfold skipF
    simp only [List.length_drop] at h2 h3
    split <;> omega
noncomputable def skipBody : Code := match Tryz.f65.body with
  | some (.seq _ (.block _ (.loop c))) => c
  | _ => .skip
theorem fnOk96 : ∃ fn, E1.F 96 = some fn := Option.isSome_iff_exists.1 (by kernel_rfl)
theorem fnOk85 : ∃ fn, E1.F 85 = some fn := Option.isSome_iff_exists.1 (by kernel_rfl)
theorem dash_len {l : List UInt8} (h : startsW [45, 45] l = true) : 1 ≤ cnt notEnd l := by
  unfold startsW at h
  rw [decide_eq_true_iff] at h
  cases l with
  | nil => cases h
  | cons a r =>
    cases r with
    | nil => cases h
    | cons b r =>
      simp at h
      obtain ⟨rfl, rfl⟩ := h
      unfold cnt
      rw [if_pos (by decide)]; omega
set_option maxHeartbeats 4000000 in
theorem skip_loop (l : List UInt8) (hl : l.length ≤ 100000) (S : St) : ∀ (n i : Nat) (t : T AV), l.length - i < n → i ≤ l.length → t.get 0 = some (strS l) → t.get 1 = some (intA i) →
    WX E1 17 (.loop skipBody) ⟨t, []⟩ S (fun r => ∃ t', r = .out .ret ⟨t', []⟩ S ∧ t'.get 4 = some (intA (i + skipF n (l.drop i))))
  | 0, i, t, hn, hi, h0, h1 => absurd hn (Nat.not_lt_zero _)
  | n + 1, i, t, hn, hi, h0, h1 => by
    refine WX_loop (W_sound ?_)
    obtain ⟨fn1, hf1⟩ := fnOk96
    obtain ⟨fn2, hf2⟩ := fnOk85
    have hc1 := cnt_le isBlank (l.drop i)
    rw [List.length_drop] at hc1
    have hs := sl9_from l (i + cnt isBlank (l.drop i)) (by omega)
    have hdd : l.drop (i + cnt isBlank (l.drop i)) = (l.drop i).drop (cnt isBlank (l.drop i)) := by rw [List.drop_drop]
    simp only [strS, intA] at h0 h1 ⊢
    simp only [thenW_normal, thenW_exit, thenW_ret, thenW_pan, W_skip, W_region, W_drawn, W_seq, W_cond, W_block, W_loop, W_exit, W_ret, seqQ_normal, seqQ_exit, seqQ_ret, seqQ_pan, blockW_normal, blockW_ret, blockW_pan, blockW_exit, WL_nil, WL_cons, execL_no, execL_val, execL_skip, execL_enter, execL_pan, putL_none, putL_some, retL_ret, retL_pan, condW_t, condW_f, wantedA, exec1, evalO, initT, T.get_set, T.get_leaf, callA, mapO, ofOpt, ofOptS, ofConst, e1_P, e1_G, partsA, neNil3, finW_ret, finW_pan, giveW, resultsA, tupA, ground_not, notO_bool, fb_lss, fb_leq, fb_gtr, fb_geq, fb_add, fb_eqlI, fb_neqI, Nat.reduceLT, Nat.reduceAdd, Nat.reduceEqDiff, if_true, if_false, reduceIte, true_and, and_true, Option.getD_some, List.getElem?_toArray, List.getElem?_cons_succ, List.getElem?_cons_zero, Option.bind_some, List.nil_append, List.append_nil, beq_self_eq_true, Bool.false_eq_true, Bool.true_eq_false, decide_true, decide_false, Bool.not_true, Bool.not_false, Bool.false_beq, Bool.true_beq, Option.toList, List.head?_cons, List.head?_nil, skipBody, Tryz.f65, h0, h1, hf1, hf2]
    refine WC.mono (behind_w blankT l hl i hi S) ?_
    rintro _ rfl
    simp only [intA]
    simp only [thenW_normal, thenW_exit, thenW_ret, thenW_pan, W_skip, W_region, W_drawn, W_seq, W_cond, W_block, W_loop, W_exit, W_ret, seqQ_normal, seqQ_exit, seqQ_ret, seqQ_pan, blockW_normal, blockW_ret, blockW_pan, blockW_exit, WL_nil, WL_cons, execL_no, execL_val, execL_skip, execL_enter, execL_pan, putL_none, putL_some, retL_ret, retL_pan, condW_t, condW_f, wantedA, exec1, evalO, initT, T.get_set, T.get_leaf, callA, mapO, ofOpt, ofOptS, ofConst, e1_P, e1_G, partsA, neNil3, finW_ret, finW_pan, giveW, resultsA, tupA, ground_not, notO_bool, fb_lss, fb_leq, fb_gtr, fb_geq, fb_add, fb_eqlI, fb_neqI, Nat.reduceLT, Nat.reduceAdd, Nat.reduceEqDiff, if_true, if_false, reduceIte, true_and, and_true, Option.getD_some, List.getElem?_toArray, List.getElem?_cons_succ, List.getElem?_cons_zero, Option.bind_some, List.nil_append, List.append_nil, beq_self_eq_true, Bool.false_eq_true, Bool.true_eq_false, decide_true, decide_false, Bool.not_true, Bool.not_false, Bool.false_beq, Bool.true_beq, Option.toList, List.head?_cons, List.head?_nil, skipBody, Tryz.f65, h0, h1, hf1, hf2, hs]
    refine WC.mono (pre_w (l.drop (i + cnt isBlank (l.drop i))) [45, 45] S) ?_
    rintro _ rfl
    cases hb : startsW [45, 45] (l.drop (i + cnt isBlank (l.drop i)))
    · have e : skipF (n + 1) (l.drop i) = cnt isBlank (l.drop i) := by unfold skipF; rw [← hdd, hb]; rfl
      simp only [thenW_normal, thenW_exit, thenW_ret, thenW_pan, W_skip, W_region, W_drawn, W_seq, W_cond, W_block, W_loop, W_exit, W_ret, seqQ_normal, seqQ_exit, seqQ_ret, seqQ_pan, blockW_normal, blockW_ret, blockW_pan, blockW_exit, WL_nil, WL_cons, execL_no, execL_val, execL_skip, execL_enter, execL_pan, putL_none, putL_some, retL_ret, retL_pan, condW_t, condW_f, wantedA, exec1, evalO, initT, T.get_set, T.get_leaf, callA, mapO, ofOpt, ofOptS, ofConst, e1_P, e1_G, partsA, neNil3, finW_ret, finW_pan, giveW, resultsA, tupA, ground_not, notO_bool, fb_lss, fb_leq, fb_gtr, fb_geq, fb_add, fb_eqlI, fb_neqI, Nat.reduceLT, Nat.reduceAdd, Nat.reduceEqDiff, if_true, if_false, reduceIte, true_and, and_true, Option.getD_some, List.getElem?_toArray, List.getElem?_cons_succ, List.getElem?_cons_zero, Option.bind_some, List.nil_append, List.append_nil, beq_self_eq_true, Bool.false_eq_true, Bool.true_eq_false, decide_true, decide_false, Bool.not_true, Bool.not_false, Bool.false_beq, Bool.true_beq, Option.toList, List.head?_cons, List.head?_nil, skipBody, Tryz.f65, h0, h1, hf1, hf2, hs, e]
      exact ⟨_, rfl, by simp only [T.get_set, Nat.reduceEqDiff, if_true]⟩
    · have e : skipF (n + 1) (l.drop i) = cnt isBlank (l.drop i) + (cnt notEnd (l.drop (i + cnt isBlank (l.drop i))) + skipF n (l.drop (i + cnt isBlank (l.drop i) + cnt notEnd (l.drop (i + cnt isBlank (l.drop i)))))) := by
        rw [skipF_succ, ← hdd, hb]; simp only [if_true, List.drop_drop, Nat.add_assoc]
      simp only [thenW_normal, thenW_exit, thenW_ret, thenW_pan, W_skip, W_region, W_drawn, W_seq, W_cond, W_block, W_loop, W_exit, W_ret, seqQ_normal, seqQ_exit, seqQ_ret, seqQ_pan, blockW_normal, blockW_ret, blockW_pan, blockW_exit, WL_nil, WL_cons, execL_no, execL_val, execL_skip, execL_enter, execL_pan, putL_none, putL_some, retL_ret, retL_pan, condW_t, condW_f, wantedA, exec1, evalO, initT, T.get_set, T.get_leaf, callA, mapO, ofOpt, ofOptS, ofConst, e1_P, e1_G, partsA, neNil3, finW_ret, finW_pan, giveW, resultsA, tupA, ground_not, notO_bool, fb_lss, fb_leq, fb_gtr, fb_geq, fb_add, fb_eqlI, fb_neqI, Nat.reduceLT, Nat.reduceAdd, Nat.reduceEqDiff, if_true, if_false, reduceIte, true_and, and_true, Option.getD_some, List.getElem?_toArray, List.getElem?_cons_succ, List.getElem?_cons_zero, Option.bind_some, List.nil_append, List.append_nil, beq_self_eq_true, Bool.false_eq_true, Bool.true_eq_false, decide_true, decide_false, Bool.not_true, Bool.not_false, Bool.false_beq, Bool.true_beq, Option.toList, List.head?_cons, List.head?_nil, skipBody, Tryz.f65, h0, h1, hf1, hf2, hs]
      refine WC.mono (behind_w notEndT l hl (i + cnt isBlank (l.drop i)) (by omega) S) ?_
      rintro _ rfl
      simp only [intA]
      simp only [thenW_normal, thenW_exit, thenW_ret, thenW_pan, W_skip, W_region, W_drawn, W_seq, W_cond, W_block, W_loop, W_exit, W_ret, seqQ_normal, seqQ_exit, seqQ_ret, seqQ_pan, blockW_normal, blockW_ret, blockW_pan, blockW_exit, WL_nil, WL_cons, execL_no, execL_val, execL_skip, execL_enter, execL_pan, putL_none, putL_some, retL_ret, retL_pan, condW_t, condW_f, wantedA, exec1, evalO, initT, T.get_set, T.get_leaf, callA, mapO, ofOpt, ofOptS, ofConst, e1_P, e1_G, partsA, neNil3, finW_ret, finW_pan, giveW, resultsA, tupA, ground_not, notO_bool, fb_lss, fb_leq, fb_gtr, fb_geq, fb_add, fb_eqlI, fb_neqI, Nat.reduceLT, Nat.reduceAdd, Nat.reduceEqDiff, if_true, if_false, reduceIte, true_and, and_true, Option.getD_some, List.getElem?_toArray, List.getElem?_cons_succ, List.getElem?_cons_zero, Option.bind_some, List.nil_append, List.append_nil, beq_self_eq_true, Bool.false_eq_true, Bool.true_eq_false, decide_true, decide_false, Bool.not_true, Bool.not_false, Bool.false_beq, Bool.true_beq, Option.toList, List.head?_cons, List.head?_nil, skipBody, Tryz.f65, h0, h1, hf1, hf2, hs]
      have hc2 := cnt_le notEnd (l.drop (i + cnt isBlank (l.drop i)))
      rw [List.length_drop] at hc2
      have hc3 := dash_len hb
      refine WX.mono (skip_loop l hl S n (i + cnt isBlank (l.drop i) + cnt notEnd (l.drop (i + cnt isBlank (l.drop i)))) _ (by omega) (by omega) ?_ ?_) ?_
      · simp only [T.get_set, Nat.reduceEqDiff, if_false, h0]; rfl
      · simp only [T.get_set, Nat.reduceEqDiff, if_true]; rfl
      · rintro r ⟨t', rfl, h⟩
        refine ⟨t', rfl, ?_⟩
        rw [h, e]
        show some (intA _) = some (intA _)
        congr 2; omega
theorem skip_w (l : List UInt8) (hl : l.length ≤ 100000) (n i : Nat) (hn : l.length - i < n) (hi : i ≤ l.length) (S : St) : WC E1 65 [strS l, intA i] S (fun r => r = .ret (intA (i + skipF n (l.drop i))) S) := by
  refine WC_fn Tryz.f65 (by kernel_rfl) (by kernel_rfl) (by kernel_rfl) (show (_ : Nat) ≤ _ from by show (_ : Nat) ≤ _; simp [Tryz.f65]) ?_
  have key := fun t h0 h1 => skip_loop l hl S n i t hn hi h0 h1
  unfold skipBody at key
  simp only [Tryz.f65] at key
  simp only [thenW_normal, thenW_exit, thenW_ret, thenW_pan, W_skip, W_region, W_drawn, W_seq, W_cond, W_block, W_loop, W_exit, W_ret, seqQ_normal, seqQ_exit, seqQ_ret, seqQ_pan, blockW_normal, blockW_ret, blockW_pan, blockW_exit, WL_nil, WL_cons, execL_no, execL_val, execL_skip, execL_enter, execL_pan, putL_none, putL_some, retL_ret, retL_pan, condW_t, condW_f, wantedA, exec1, evalO, initT, T.get_set, T.get_leaf, callA, mapO, ofOpt, ofOptS, ofConst, e1_P, e1_G, partsA, neNil3, finW_ret, finW_pan, giveW, resultsA, tupA, ground_not, notO_bool, fb_lss, fb_leq, fb_gtr, fb_geq, fb_add, fb_eqlI, fb_neqI, Nat.reduceLT, Nat.reduceAdd, Nat.reduceEqDiff, if_true, if_false, reduceIte, true_and, and_true, Option.getD_some, List.getElem?_toArray, List.getElem?_cons_succ, List.getElem?_cons_zero, Option.bind_some, List.nil_append, List.append_nil, beq_self_eq_true, Bool.false_eq_true, Bool.true_eq_false, decide_true, decide_false, Bool.not_true, Bool.not_false, Bool.false_beq, Bool.true_beq, Option.toList, List.head?_cons, List.head?_nil, Tryz.f65]
  refine WX.mono (key _ ?_ ?_) ?_
  · simp only [T.get_set, T.get_leaf, Nat.reduceEqDiff, if_true, if_false]
  · simp only [T.get_set, T.get_leaf, Nat.reduceEqDiff, if_true, if_false]
  · rintro r ⟨t', rfl, h⟩
    simp only [thenW_normal, thenW_exit, thenW_ret, thenW_pan, W_skip, W_region, W_drawn, W_seq, W_cond, W_block, W_loop, W_exit, W_ret, seqQ_normal, seqQ_exit, seqQ_ret, seqQ_pan, blockW_normal, blockW_ret, blockW_pan, blockW_exit, WL_nil, WL_cons, execL_no, execL_val, execL_skip, execL_enter, execL_pan, putL_none, putL_some, retL_ret, retL_pan, condW_t, condW_f, wantedA, exec1, evalO, initT, T.get_set, T.get_leaf, callA, mapO, ofOpt, ofOptS, ofConst, e1_P, e1_G, partsA, neNil3, finW_ret, finW_pan, giveW, resultsA, tupA, ground_not, notO_bool, fb_lss, fb_leq, fb_gtr, fb_geq, fb_add, fb_eqlI, fb_neqI, Nat.reduceLT, Nat.reduceAdd, Nat.reduceEqDiff, if_true, if_false, reduceIte, true_and, and_true, Option.getD_some, List.getElem?_toArray, List.getElem?_cons_succ, List.getElem?_cons_zero, Option.bind_some, List.nil_append, List.append_nil, beq_self_eq_true, Bool.false_eq_true, Bool.true_eq_false, decide_true, decide_false, Bool.not_true, Bool.not_false, Bool.false_beq, Bool.true_beq, Option.toList, List.head?_cons, List.head?_nil, h]
end Go.Ax
