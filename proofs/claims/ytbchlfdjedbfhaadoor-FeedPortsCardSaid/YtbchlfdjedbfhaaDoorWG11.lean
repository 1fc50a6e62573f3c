/-
  Layer 20: number, of what begins without a sign.
-/
import Derived.Test.YtbchlfdjedbfhaaDoorWG10
import Derived.Lib.ItoaLen
import Derived.IntWalk
set_option linter.unusedVariables false
set_option linter.unusedSimpArgs false
set_option maxHeartbeats 16000000
noncomputable section
namespace Go.Ax
open Go.RowKit Go.Proofs
set_option linter.unusedVariables false
set_option linter.unusedSimpArgs false
set_option maxRecDepth 100000
theorem num_pos (s : List UInt8) (hl : s.length ≤ 100000) (hn : s.head? ≠ some 45) (h0 : s ≠ []) (hz : ¬ (s.head? = some 48 ∧ s ≠ [48])) : KnZ 48 [strS s] := by
  refine bodyZ Tryd.f48 (by kernel_rfl) (by kernel_rfl) (show (_ : Nat) ≤ _ from by show (_ : Nat) ≤ _; simp [Tryd.f48]) ?_
  have hspec := num_loop (s := s) (ds := s) false rfl (fun _ => hn) h0 hz
  have key := fun t S => nu_lp hl (some (strS s)) s.length 0 t S false 0 (by omega) ⟨by rw [List.take_zero]; rfl, fun _ => ⟨by rw [List.take_zero]; exact Nat.zero_le _, by rw [List.take_zero]; rfl⟩, (fun h => by cases h)⟩
  unfold nuLB at key
  simp only [Tryd.f48] at key
  obtain ⟨d, r, hdr2⟩ : ∃ d r, s = d :: r := by cases s with | nil => exact absurd rfl h0 | cons d r => exact ⟨d, r, rfl⟩
  have hsl : 0 < s.length := by rw [hdr2]; simp
  have hgt : decide (((s.length : Nat) : Int) > 0) = true := by rw [decide_eq_true_eq]; omega
  have e0 : s[0].toNat = d.toNat := by simp only [hdr2]; rfl
  have hx0 : fastIndex Tryd.prog 9 (.v (.string ⟨⟨s⟩⟩)) (.v (.int .i64 0)) = some (.v (.int .u8 (d.toNat : Int))) := by
    have := idx9 s 0 hsl
    rw [e0] at this
    exact this
  have hd45 : ((d.toNat : Int) == 45) = false := by
    rw [beq_eq_false_iff_ne]; intro e
    refine hn ?_
    rw [hdr2, List.head?_cons, Option.some.injEq]
    exact UInt8.toNat_inj.1 (show d.toNat = 45 by omega)
  have hne : decide (s = []) = false := by rw [decide_eq_false_iff_not]; exact h0
  have hts : decide (s = s) = true := by rw [decide_eq_true_eq]
  by_cases h48 : d.toNat = 48
  · have hd48 : ((d.toNat : Int) == 48) = true := by rw [beq_iff_eq]; omega
    have hs48 : decide (s = [48]) = true := by
      rw [decide_eq_true_eq]
      by_cases h : s = [48]
      · exact h
      · exact absurd ⟨by rw [hdr2, List.head?_cons, Option.some.injEq]; exact UInt8.toNat_inj.1 (show d.toNat = 48 from h48), h⟩ hz
    clear hdr2 e0
    simp (maxSteps := 2000000) (disch := omega) only [W_skip, W_region, W_seq, W_cond, W_block, W_loop, W_ret, seqQ_normal2, seqQ_ret2, WL_nil2, WL_cons, execL_val2, putL_some2, condW_f2, wantedA, exec1, evalO, initT, T.get_set, T.get_leaf, callA, mapO, ofOpt, ofConst, neNil3, finW_ret, giveW, resultsA, tupA, fb_gtr, fb_eqlI, fb_eqS, fb_neqSx, neNil9, Nat.reduceLT, Nat.reduceEqDiff, if_true, if_false, true_and, Option.getD_some, List.getElem?_toArray, List.getElem?_cons_succ, List.getElem?_cons_zero, Option.bind_some, beq_self_eq_true, Bool.false_eq_true, Bool.not_true, Option.toList, List.head?_cons, List.head?_nil, ez_P, ez_G, Tryd.f48, strS, neNil5, neNil9, len9, fb_eqS, initT, hgt, hx0, hd45, hne, hd48, hs48]
    refine WX.mono (key _ _ ?_ ?_ ?_ ?_ ?_) ?_
    · simp only [T.get_set, T.get_leaf, Nat.reduceEqDiff, if_true, if_false, strS] <;> rfl
    · simp only [T.get_set, T.get_leaf, Nat.reduceEqDiff, if_true, if_false, strS] <;> rfl
    · simp only [T.get_set, T.get_leaf, Nat.reduceEqDiff, if_true, if_false] <;> rfl
    · simp only [T.get_set, T.get_leaf, Nat.reduceEqDiff, if_true, if_false] <;> rfl
    · simp only [T.get_set, T.get_leaf, Nat.reduceEqDiff, if_true, if_false] <;> rfl
    intro r' hr
    rcases hr with ⟨t', rfl, r2, r3, hbad⟩ | ⟨t', ov, m, rfl, r0, r4, r5, r6, hI1, hI2, hI3⟩
    · simp (maxSteps := 2000000) (disch := omega) only [seqQ_ret2, blockW_ret2, finW_ret, giveW, resultsA, tupA, r2, r3]
      exact num_fin (e := 1) (hspec.1 hbad) _
    · rw [List.take_length] at hI1 hI2 hI3
      obtain ⟨p1, p2, p3, p4⟩ := hspec.2 hI1
      simp only [strS] at r0 r4
      cases ov with
      | true =>
        have hV := hI3 rfl
        have hq : IntKind.i64.wrap (0 - m) = IntKind.i64.wrap (0 - m) := rfl
        by_cases hm : m = -9223372036854775808
        · have hme : (m == -9223372036854775808) = true := by rw [beq_iff_eq]; exact hm
          simp (maxSteps := 2000000) (disch := omega) only [W_skip, W_region, W_seq, W_cond, W_ret, seqQ_normal2, seqQ_exit2, seqQ_ret2, blockW_exit2, WL_nil2, WL_cons, execL_val2, putL_some2, condW_t2, wantedA, exec1, evalO, T.get_set, ofOpt, ofConst, finW_ret, giveW, resultsA, tupA, fb_eqlI, fb_eqS, neNil9, Nat.reduceLT, Nat.reduceEqDiff, if_true, if_false, true_and, Bool.false_eq_true, decide_true, ez_P, ez_G, neNil2, neNil9, gneg, negO_i, fb_eqS, r0, r4, r5, r6, hme]
          exact num_fin (e := 3) (p4 rfl (by omega)) _
        · have hme : (m == -9223372036854775808) = false := by rw [beq_eq_false_iff_ne]; exact hm
          simp (maxSteps := 2000000) (disch := omega) only [W_skip, W_region, W_seq, W_cond, W_ret, seqQ_normal2, seqQ_exit2, seqQ_ret2, blockW_exit2, WL_nil2, WL_cons, execL_val2, putL_some2, condW_t2, condW_f2, wantedA, exec1, evalO, T.get_set, ofOpt, ofConst, finW_ret, giveW, resultsA, tupA, fb_eqlI, fb_eqS, neNil9, Nat.reduceLT, Nat.reduceEqDiff, if_true, if_false, true_and, Bool.false_eq_true, decide_true, ez_P, ez_G, neNil2, neNil9, gneg, negO_i, fb_eqS, r0, r4, r5, r6, hme]
          exact num_fin (e := 3) (p4 rfl (by omega)) _
      | false =>
        obtain ⟨hv, rfl⟩ := hI2 rfl
        by_cases hm : numV 0 s = 9223372036854775808
        · have hme : ((-(numV 0 s : Int)) == -9223372036854775808) = true := by rw [beq_iff_eq]; omega
          simp (maxSteps := 2000000) (disch := omega) only [W_skip, W_region, W_seq, W_cond, W_ret, seqQ_normal2, seqQ_exit2, seqQ_ret2, blockW_exit2, WL_nil2, WL_cons, execL_val2, putL_some2, condW_t2, condW_f2, wantedA, exec1, evalO, T.get_set, ofOpt, ofConst, finW_ret, giveW, resultsA, tupA, fb_eqlI, fb_eqS, neNil9, Nat.reduceLT, Nat.reduceEqDiff, if_true, if_false, true_and, Bool.false_eq_true, decide_true, ez_P, ez_G, neNil2, neNil9, gneg, negO_i, fb_eqS, r0, r4, r5, r6, hme]
          exact num_fin (e := 3) (p4 rfl (by omega)) _
        · have hme : ((-(numV 0 s : Int)) == -9223372036854775808) = false := by rw [beq_eq_false_iff_ne]; omega
          have hwn : IntKind.i64.wrap (0 - -(numV 0 s : Int)) = (numV 0 s : Int) := by
            rw [show (0 : Int) - -(numV 0 s : Int) = (numV 0 s : Int) by omega]; exact i64w (by omega)
          simp (maxSteps := 2000000) (disch := omega) only [W_skip, W_region, W_seq, W_cond, W_ret, seqQ_normal2, seqQ_exit2, seqQ_ret2, blockW_exit2, WL_nil2, WL_cons, execL_val2, putL_some2, condW_t2, condW_f2, wantedA, exec1, evalO, T.get_set, ofOpt, ofConst, finW_ret, giveW, resultsA, tupA, fb_eqlI, fb_eqS, neNil9, Nat.reduceLT, Nat.reduceEqDiff, if_true, if_false, true_and, Bool.false_eq_true, decide_true, ez_P, ez_G, neNil2, neNil9, gneg, negO_i, fb_eqS, r0, r4, r5, r6, hme, hwn]
          exact num_fin (e := 0) (p3 rfl (by omega)) _
  · have hd48 : ((d.toNat : Int) == 48) = false := by rw [beq_eq_false_iff_ne]; omega
    clear hdr2 e0
    simp (maxSteps := 2000000) (disch := omega) only [W_skip, W_region, W_seq, W_cond, W_block, W_loop, W_ret, seqQ_normal2, seqQ_ret2, WL_nil2, WL_cons, execL_no, execL_val2, putL_some2, condW_f2, wantedA, exec1, evalO, initT, T.get_set, T.get_leaf, callA, mapO, ofOpt, ofConst, neNil3, finW_ret, giveW, resultsA, tupA, fb_gtr, fb_eqlI, fb_eqS, neNil9, Nat.reduceLT, Nat.reduceEqDiff, if_true, if_false, true_and, Option.getD_some, List.getElem?_toArray, List.getElem?_cons_succ, List.getElem?_cons_zero, Option.bind_some, beq_self_eq_true, Bool.false_eq_true, Bool.not_true, Bool.false_beq, Option.toList, List.head?_cons, List.head?_nil, ez_P, ez_G, Tryd.f48, strS, neNil5, neNil9, len9, fb_eqS, initT, hgt, hx0, hd45, hne, hd48]
    refine WX.mono (key _ _ ?_ ?_ ?_ ?_ ?_) ?_
    · simp only [T.get_set, T.get_leaf, Nat.reduceEqDiff, if_true, if_false, strS] <;> rfl
    · simp only [T.get_set, T.get_leaf, Nat.reduceEqDiff, if_true, if_false, strS] <;> rfl
    · simp only [T.get_set, T.get_leaf, Nat.reduceEqDiff, if_true, if_false] <;> rfl
    · simp only [T.get_set, T.get_leaf, Nat.reduceEqDiff, if_true, if_false] <;> rfl
    · simp only [T.get_set, T.get_leaf, Nat.reduceEqDiff, if_true, if_false] <;> rfl
    intro r' hr
    rcases hr with ⟨t', rfl, r2, r3, hbad⟩ | ⟨t', ov, m, rfl, r0, r4, r5, r6, hI1, hI2, hI3⟩
    · simp (maxSteps := 2000000) (disch := omega) only [seqQ_ret2, blockW_ret2, finW_ret, giveW, resultsA, tupA, r2, r3]
      exact num_fin (e := 1) (hspec.1 hbad) _
    · rw [List.take_length] at hI1 hI2 hI3
      obtain ⟨p1, p2, p3, p4⟩ := hspec.2 hI1
      simp only [strS] at r0 r4
      cases ov with
      | true =>
        have hV := hI3 rfl
        have hq : IntKind.i64.wrap (0 - m) = IntKind.i64.wrap (0 - m) := rfl
        by_cases hm : m = -9223372036854775808
        · have hme : (m == -9223372036854775808) = true := by rw [beq_iff_eq]; exact hm
          simp (maxSteps := 2000000) (disch := omega) only [W_skip, W_region, W_seq, W_cond, W_ret, seqQ_normal2, seqQ_exit2, seqQ_ret2, blockW_exit2, WL_nil2, WL_cons, execL_val2, putL_some2, condW_t2, wantedA, exec1, evalO, T.get_set, ofOpt, ofConst, finW_ret, giveW, resultsA, tupA, fb_eqlI, fb_eqS, neNil9, Nat.reduceLT, Nat.reduceEqDiff, if_true, if_false, true_and, Bool.false_eq_true, decide_true, ez_P, ez_G, neNil2, neNil9, gneg, negO_i, fb_eqS, r0, r4, r5, r6, hme]
          exact num_fin (e := 3) (p4 rfl (by omega)) _
        · have hme : (m == -9223372036854775808) = false := by rw [beq_eq_false_iff_ne]; exact hm
          simp (maxSteps := 2000000) (disch := omega) only [W_skip, W_region, W_seq, W_cond, W_ret, seqQ_normal2, seqQ_exit2, seqQ_ret2, blockW_exit2, WL_nil2, WL_cons, execL_val2, putL_some2, condW_t2, condW_f2, wantedA, exec1, evalO, T.get_set, ofOpt, ofConst, finW_ret, giveW, resultsA, tupA, fb_eqlI, fb_eqS, neNil9, Nat.reduceLT, Nat.reduceEqDiff, if_true, if_false, true_and, Bool.false_eq_true, decide_true, ez_P, ez_G, neNil2, neNil9, gneg, negO_i, fb_eqS, r0, r4, r5, r6, hme]
          exact num_fin (e := 3) (p4 rfl (by omega)) _
      | false =>
        obtain ⟨hv, rfl⟩ := hI2 rfl
        by_cases hm : numV 0 s = 9223372036854775808
        · have hme : ((-(numV 0 s : Int)) == -9223372036854775808) = true := by rw [beq_iff_eq]; omega
          simp (maxSteps := 2000000) (disch := omega) only [W_skip, W_region, W_seq, W_cond, W_ret, seqQ_normal2, seqQ_exit2, seqQ_ret2, blockW_exit2, WL_nil2, WL_cons, execL_val2, putL_some2, condW_t2, condW_f2, wantedA, exec1, evalO, T.get_set, ofOpt, ofConst, finW_ret, giveW, resultsA, tupA, fb_eqlI, fb_eqS, neNil9, Nat.reduceLT, Nat.reduceEqDiff, if_true, if_false, true_and, Bool.false_eq_true, decide_true, ez_P, ez_G, neNil2, neNil9, gneg, negO_i, fb_eqS, r0, r4, r5, r6, hme]
          exact num_fin (e := 3) (p4 rfl (by omega)) _
        · have hme : ((-(numV 0 s : Int)) == -9223372036854775808) = false := by rw [beq_eq_false_iff_ne]; omega
          have hwn : IntKind.i64.wrap (0 - -(numV 0 s : Int)) = (numV 0 s : Int) := by
            rw [show (0 : Int) - -(numV 0 s : Int) = (numV 0 s : Int) by omega]; exact i64w (by omega)
          simp (maxSteps := 2000000) (disch := omega) only [W_skip, W_region, W_seq, W_cond, W_ret, seqQ_normal2, seqQ_exit2, seqQ_ret2, blockW_exit2, WL_nil2, WL_cons, execL_val2, putL_some2, condW_t2, condW_f2, wantedA, exec1, evalO, T.get_set, ofOpt, ofConst, finW_ret, giveW, resultsA, tupA, fb_eqlI, fb_eqS, neNil9, Nat.reduceLT, Nat.reduceEqDiff, if_true, if_false, true_and, Bool.false_eq_true, decide_true, ez_P, ez_G, neNil2, neNil9, gneg, negO_i, fb_eqS, r0, r4, r5, r6, hme, hwn]
          exact num_fin (e := 0) (p3 rfl (by omega)) _
end Go.Ax
noncomputable section
namespace Go.Ax
open Go.RowKit Go.Proofs
set_option linter.unusedVariables false
set_option linter.unusedSimpArgs false
set_option maxRecDepth 100000
theorem idx0 (d : UInt8) (r : List UInt8) : fastIndex Tryd.prog 9 (.v (.string ⟨⟨d :: r⟩⟩)) (.v (.int .i64 0)) = some (.v (.int .u8 (d.toNat : Int))) := idx9 (d :: r) 0 (by simp)
theorem sl1 (d : UInt8) (r : List UInt8) : fastSlice Tryd.prog 9 (.v (.string ⟨⟨d :: r⟩⟩)) (some (.v (.int .i64 1))) none = some (.v (.string ⟨⟨r⟩⟩)) := sl9_from (d :: r) 1 (by simp)
theorem len_gt (d : UInt8) (r : List UInt8) : decide ((((d :: r).length : Nat) : Int) > 0) = true := by rw [decide_eq_true_eq]; simp only [List.length_cons]; omega
theorem num_e1 : KnZ 48 [strS []] := by
  refine bodyZ Tryd.f48 (by kernel_rfl) (by kernel_rfl) (show (_ : Nat) ≤ _ from by show (_ : Nat) ≤ _; simp [Tryd.f48]) ?_
  have hgt : decide (((0 : Nat) : Int) > 0) = false := rfl
  have hne : decide (([] : List UInt8) = []) = true := rfl
  simp (maxSteps := 2000000) (disch := omega) only [W_skip, W_region, W_seq, W_cond, W_block, W_loop, W_ret, seqQ_normal2, seqQ_ret2, WL_nil2, WL_cons, execL_no, execL_val2, putL_some2, condW_t2, condW_f2, wantedA, exec1, evalO, initT, T.get_set, T.get_leaf, callA, mapO, ofOpt, ofConst, neNil3, finW_ret, giveW, resultsA, tupA, fb_gtr, fb_eqS, neNil9, Nat.reduceLT, Nat.reduceEqDiff, if_true, if_false, true_and, Option.getD_some, List.getElem?_toArray, List.getElem?_cons_succ, List.getElem?_cons_zero, Option.bind_some, Bool.false_eq_true, decide_true, Bool.not_true, Bool.false_beq, Bool.true_beq, Option.toList, List.head?_cons, List.head?_nil, List.length_nil, ez_P, ez_G, Tryd.f48, strS, neNil5, neNil9, len9, fb_eqS, initT, hgt]
  exact num_fin (s := []) (e := 1) (num_bad (.inl rfl)) _
theorem num_e2 : KnZ 48 [strS [45]] := by
  refine bodyZ Tryd.f48 (by kernel_rfl) (by kernel_rfl) (show (_ : Nat) ≤ _ from by show (_ : Nat) ≤ _; simp [Tryd.f48]) ?_
  have hgt := len_gt 45 []
  have hx0 : fastIndex Tryd.prog 9 (.v (.string ⟨⟨[45]⟩⟩)) (.v (.int .i64 0)) = some (.v (.int .u8 45)) := idx0 45 []
  have hfr := sl1 45 []
  have hne : decide (([] : List UInt8) = []) = true := rfl
  generalize ([45] : List UInt8).length = n at hgt
  have hl : ∀ S, oLen Tryd.prog S 9 (.v (.string ⟨⟨[45]⟩⟩)) = some 1 := fun S => len9 S [45]
  have hgt : decide (((1 : Nat) : Int) > 0) = true := rfl
  simp (maxSteps := 2000000) (disch := omega) only [W_skip, W_region, W_seq, W_cond, W_block, W_loop, W_ret, seqQ_normal2, seqQ_ret2, WL_nil2, WL_cons, execL_no, execL_val2, putL_some2, condW_t2, wantedA, exec1, evalO, initT, T.get_set, T.get_leaf, callA, mapO, ofOpt, ofConst, neNil3, finW_ret, giveW, resultsA, tupA, fb_gtr, fb_eqlI, fb_eqS, neNil9, Nat.reduceLT, Nat.reduceEqDiff, if_true, if_false, true_and, Option.getD_some, List.getElem?_toArray, List.getElem?_cons_succ, List.getElem?_cons_zero, Option.bind_some, beq_self_eq_true, Bool.false_eq_true, decide_true, Bool.true_beq, Option.toList, List.head?_cons, List.head?_nil, ez_P, ez_G, Tryd.f48, strS, neNil5, neNil9, fb_eqS, initT, hgt, hx0, hfr, hl]
  exact num_fin (s := [45]) (e := 1) (num_bad (.inl rfl)) _
theorem num_e3 (r : List UInt8) : KnZ 48 [strS (45 :: 48 :: r)] := by
  refine bodyZ Tryd.f48 (by kernel_rfl) (by kernel_rfl) (show (_ : Nat) ≤ _ from by show (_ : Nat) ≤ _; simp [Tryd.f48]) ?_
  have hs : (45 :: 48 :: r : List UInt8) ≠ [48] := by intro h; have := congrArg List.length h; simp at this
  have hbad := num_bad (s := 45 :: 48 :: r) (.inr ⟨rfl, hs⟩)
  have hgt := len_gt 45 (48 :: r)
  have hx0 : fastIndex Tryd.prog 9 (.v (.string ⟨⟨45 :: 48 :: r⟩⟩)) (.v (.int .i64 0)) = some (.v (.int .u8 45)) := idx0 45 (48 :: r)
  have hfr := sl1 45 (48 :: r)
  have hx1 : fastIndex Tryd.prog 9 (.v (.string ⟨⟨48 :: r⟩⟩)) (.v (.int .i64 0)) = some (.v (.int .u8 48)) := idx0 48 r
  have hne : decide ((48 :: r : List UInt8) = []) = false := by rw [decide_eq_false_iff_not]; simp
  have hn2 : decide ((45 :: 48 :: r : List UInt8) = [48]) = false := by rw [decide_eq_false_iff_not]; exact hs
  have hl := fun S => len9 S (45 :: 48 :: r)
  generalize hq : (45 :: 48 :: r : List UInt8) = s at *
  generalize (48 :: r : List UInt8) = ds at *
  simp (maxSteps := 2000000) (disch := omega) only [W_skip, W_region, W_seq, W_cond, W_block, W_loop, W_ret, seqQ_normal2, seqQ_ret2, WL_nil2, WL_cons, execL_val2, putL_some2, condW_t2, wantedA, exec1, evalO, initT, T.get_set, T.get_leaf, callA, mapO, ofOpt, ofConst, neNil3, finW_ret, giveW, resultsA, tupA, fb_gtr, fb_eqlI, fb_eqS, fb_neqSx, neNil9, Nat.reduceLT, Nat.reduceEqDiff, if_true, if_false, true_and, Option.getD_some, List.getElem?_toArray, List.getElem?_cons_succ, List.getElem?_cons_zero, Option.bind_some, beq_self_eq_true, Bool.false_eq_true, Bool.not_false, Option.toList, List.head?_cons, List.head?_nil, ez_P, ez_G, Tryd.f48, strS, neNil5, neNil9, fb_eqS, initT, hgt, hx0, hfr, hne, hx1, hn2, hl]
  exact num_fin (e := 1) hbad _
theorem num_e4 (r : List UInt8) (hr : r ≠ []) : KnZ 48 [strS (48 :: r)] := by
  refine bodyZ Tryd.f48 (by kernel_rfl) (by kernel_rfl) (show (_ : Nat) ≤ _ from by show (_ : Nat) ≤ _; simp [Tryd.f48]) ?_
  have hs : (48 :: r : List UInt8) ≠ [48] := by intro h; injection h with _ h; exact hr h
  have hbad := num_bad (s := 48 :: r) (.inr ⟨rfl, hs⟩)
  have hgt := len_gt 48 r
  have hx0 : fastIndex Tryd.prog 9 (.v (.string ⟨⟨48 :: r⟩⟩)) (.v (.int .i64 0)) = some (.v (.int .u8 48)) := idx0 48 r
  have hne : decide ((48 :: r : List UInt8) = []) = false := by rw [decide_eq_false_iff_not]; simp
  have hn2 : decide ((48 :: r : List UInt8) = [48]) = false := by rw [decide_eq_false_iff_not]; exact hs
  have h45 : ((48 : Int) == 45) = false := rfl
  have hl := fun S => len9 S (48 :: r)
  generalize hq : (48 :: r : List UInt8) = s at *
  simp (maxSteps := 2000000) (disch := omega) only [W_skip, W_region, W_seq, W_cond, W_block, W_loop, W_ret, seqQ_normal2, seqQ_ret2, WL_nil2, WL_cons, execL_val2, putL_some2, condW_t2, condW_f2, wantedA, exec1, evalO, initT, T.get_set, T.get_leaf, callA, mapO, ofOpt, ofConst, neNil3, finW_ret, giveW, resultsA, tupA, fb_gtr, fb_eqlI, fb_eqS, fb_neqSx, neNil9, Nat.reduceLT, Nat.reduceEqDiff, if_true, if_false, true_and, Option.getD_some, List.getElem?_toArray, List.getElem?_cons_succ, List.getElem?_cons_zero, Option.bind_some, beq_self_eq_true, Bool.false_eq_true, Bool.not_false, Option.toList, List.head?_cons, List.head?_nil, ez_P, ez_G, Tryd.f48, strS, neNil5, neNil9, fb_eqS, initT, hgt, hx0, hne, hn2, hl, h45]
  exact num_fin (e := 1) hbad _
theorem number_k (s : List UInt8) (hl : s.length ≤ 100000) : KnZ 48 [strS s] := by
  match s with
  | [] => exact num_e1
  | b :: r =>
    by_cases h45 : b = 45
    · subst h45
      match r with
      | [] => exact num_e2
      | d :: r2 =>
        by_cases h48 : d = 48
        · subst h48; exact num_e3 r2
        · exact num_neg _ (d :: r2) hl rfl (by simp) (fun h => h48 (by simpa using h))
    · by_cases hz : b = 48 ∧ r ≠ []
      · obtain ⟨rfl, hr⟩ := hz; exact num_e4 r hr
      · refine num_pos _ hl (fun h => h45 (by simpa using h)) (by simp) (fun h => hz ?_)
        obtain ⟨h1, h2⟩ := h
        have hb : b = 48 := by simpa using h1
        refine ⟨hb, fun hr => h2 (by rw [hb, hr])⟩
theorem use_number {S : St} {Q : R → Prop} {l : List UInt8} (hl : l.length ≤ 100000) (h : Q (.ret (.tup [i64A (numF l).1, i64A (numF l).2]) S)) : WC EZ 48 [strS l] S Q :=
  callZ (number_k l hl) (by kernel_rfl) rfl rfl fun a _ _ hs => by
    have := hs l rfl hl
    subst this
    exact h
theorem fnz_48 : ∃ fn, EZ.F 48 = some fn := Option.isSome_iff_exists.1 (by kernel_rfl)
theorem val_fin {s : List UInt8} {t : Bool} {x : Int} {e : Nat} (h : valF s t = (x, e)) (S' : St) : ∃ a S'', R.ret (.tup [.v (.int .i64 x), .v (.int .i64 (e : Int))]) S' = R.ret a S'' ∧ freeV a = true ∧ SpecZ 34 [strS s, .v (.bool t)] (clean a) := by
  refine ⟨_, _, rfl, rfl, ?_⟩
  intro l t' hl _
  injection hl with h3 h4
  have := str_inj h3
  injection h4 with h4 _
  injection h4 with h4
  injection h4 with h4
  subst this; subst h4
  rw [h]; rfl
theorem value_k (s : List UInt8) (t : Bool) (hl : s.length ≤ 100000) : KnZ 34 [strS s, .v (.bool t)] := by
  refine bodyZ Tryd.f34 (by kernel_rfl) (by kernel_rfl) (show (_ : Nat) ≤ _ from by show (_ : Nat) ≤ _; simp [Tryd.f34]) ?_
  obtain ⟨fn1, hf1⟩ := fnz_48
  cases t with
  | false =>
    simp (maxSteps := 2000000) (disch := omega) only [W_skip, W_region, W_seq, W_cond, W_ret, seqQ_normal2, seqQ_ret2, WL_nil2, WL_cons, execL_val2, execL_enter2, putL_some2, condW_t2, wantedA, exec1, evalO, initT, T.get_set, T.get_leaf, callA, mapO, ofOpt, ofConst, finW_ret, giveW, resultsA, tupA, notO_bool, fb_eqS, neNil9, Nat.reduceLT, Nat.reduceEqDiff, if_true, if_false, true_and, Option.getD_some, List.nil_append, List.append_nil, Bool.false_eq_true, Bool.not_false, Nat.zero_add, ez_P, ez_G, gnot, Tryd.f34, strS, neNil9, fb_eqS, hf1, initT]
    refine use_number hl ?_
    simp only [i64A]
    simp (maxSteps := 2000000) (disch := omega) only [W_ret, seqQ_normal2, seqQ_ret2, WL_nil2, WL_cons, execL_val2, putL_some2, retL_ret2, wantedA, exec1, evalO, T.get_set, T.get_leaf, ofOpt, finW_ret, giveW, resultsA, tupA, Nat.reduceLT, Nat.reduceEqDiff, if_true, if_false, true_and, List.getElem?_cons_succ, List.getElem?_cons_zero, oExtract]
    exact val_fin (t := false) (by show numF s = _; rfl) _
  | true =>
    by_cases h1 : s = [116, 114, 117, 101]
    · have e1 : decide (s = [116, 114, 117, 101]) = true := by rw [decide_eq_true_eq]; exact h1
      simp (maxSteps := 2000000) (disch := omega) only [W_skip, W_region, W_seq, W_cond, W_ret, seqQ_normal2, seqQ_ret2, WL_nil2, WL_cons, execL_val2, execL_enter2, putL_some2, condW_t2, condW_f2, wantedA, exec1, evalO, initT, T.get_set, T.get_leaf, callA, mapO, ofOpt, ofConst, finW_ret, giveW, resultsA, tupA, notO_bool, fb_eqS, neNil9, Nat.reduceLT, Nat.reduceEqDiff, if_true, if_false, true_and, Option.getD_some, List.nil_append, List.append_nil, Bool.false_eq_true, Bool.not_true, Nat.zero_add, ez_P, ez_G, gnot, Tryd.f34, strS, neNil9, fb_eqS, hf1, initT, e1]
      exact val_fin (e := 0) (t := true) (by unfold valF; rw [if_pos rfl, if_pos h1]) _
    · have e1 : decide (s = [116, 114, 117, 101]) = false := by rw [decide_eq_false_iff_not]; exact h1
      by_cases h2 : s = [102, 97, 108, 115, 101]
      · have e2 : decide (s = [102, 97, 108, 115, 101]) = true := by rw [decide_eq_true_eq]; exact h2
        simp (maxSteps := 2000000) (disch := omega) only [W_skip, W_region, W_seq, W_cond, W_ret, seqQ_normal2, seqQ_ret2, WL_nil2, WL_cons, execL_val2, execL_enter2, putL_some2, condW_t2, condW_f2, wantedA, exec1, evalO, initT, T.get_set, T.get_leaf, callA, mapO, ofOpt, ofConst, finW_ret, giveW, resultsA, tupA, notO_bool, fb_eqS, neNil9, Nat.reduceLT, Nat.reduceEqDiff, if_true, if_false, true_and, Option.getD_some, List.nil_append, List.append_nil, Bool.false_eq_true, Bool.not_true, Nat.zero_add, ez_P, ez_G, gnot, Tryd.f34, strS, neNil9, fb_eqS, hf1, initT, e1, e2]
        exact val_fin (e := 0) (t := true) (by unfold valF; rw [if_pos rfl, if_neg h1, if_pos h2]) _
      · have e2 : decide (s = [102, 97, 108, 115, 101]) = false := by rw [decide_eq_false_iff_not]; exact h2
        simp (maxSteps := 2000000) (disch := omega) only [W_skip, W_region, W_seq, W_cond, W_ret, seqQ_normal2, seqQ_ret2, WL_nil2, WL_cons, execL_val2, execL_enter2, putL_some2, condW_f2, wantedA, exec1, evalO, initT, T.get_set, T.get_leaf, callA, mapO, ofOpt, ofConst, finW_ret, giveW, resultsA, tupA, notO_bool, fb_eqS, neNil9, Nat.reduceLT, Nat.reduceEqDiff, if_true, if_false, true_and, Option.getD_some, List.nil_append, List.append_nil, Bool.false_eq_true, Bool.not_true, Nat.zero_add, ez_P, ez_G, gnot, Tryd.f34, strS, neNil9, fb_eqS, hf1, initT, e1, e2]
        exact val_fin (e := 1) (t := true) (by unfold valF; rw [if_pos rfl, if_neg h1, if_neg h2]) _
theorem use_value {S : St} {Q : R → Prop} {l : List UInt8} {t : Bool} (hl : l.length ≤ 100000) (h : Q (.ret (.tup [i64A (valF l t).1, i64A (valF l t).2]) S)) : WC EZ 34 [strS l, .v (.bool t)] S Q :=
  callZ (value_k l t hl) (by kernel_rfl) rfl rfl fun a _ _ hs => by
    have := hs l t rfl hl
    subst this
    exact h
end Go.Ax
noncomputable section
namespace Go.Ax
open Go.RowKit Go.Proofs
set_option linter.unusedVariables false
set_option linter.unusedSimpArgs false
set_option maxRecDepth 100000
theorem split_len (c : UInt8) : ∀ l : List UInt8, (splitB c l).length ≤ l.length + 1 ∧ ∀ w ∈ splitB c l, w.length ≤ l.length
  | [] => ⟨Nat.le_refl _, fun w h => by rw [splitB] at h; simp only [List.mem_cons, List.not_mem_nil, or_false] at h; subst h; exact Nat.le_refl _⟩
  | b :: r => by
    obtain ⟨h1, h2⟩ := split_len c r
    rw [splitB]
    split
    · refine ⟨by simp only [List.length_cons]; omega, fun w h => ?_⟩
      rcases List.mem_cons.1 h with rfl | h
      · exact Nat.zero_le _
      · have := h2 w h; simp only [List.length_cons]; omega
    · cases hs : splitB c r with
      | nil => exact absurd hs (split_ne c r)
      | cons x xs =>
        rw [hs] at h1 h2
        refine ⟨by simp only [List.length_cons] at h1 ⊢; omega, fun w h => ?_⟩
        rcases List.mem_cons.1 h with rfl | h
        · have := h2 x (List.mem_cons_self ..); simp only [List.length_cons]; omega
        · have := h2 w (List.mem_cons_of_mem _ h); simp only [List.length_cons]; omega
theorem dcls_len : ∀ {ts : List Bool} {es : List AV}, dcls ts es → es.length = ts.length
  | [], [], _ => rfl
  | t :: ts, a :: r, h => by rw [List.length_cons, List.length_cons, dcls_len h.2]
  | [], _ :: _, h => h.elim
  | _ :: _, [], h => h.elim
theorem dcls_get : ∀ {ts : List Bool} {es : List AV}, dcls ts es → ∀ (j : Nat) (h : j < ts.length) (h2 : j < es.length), dcl ts[j] es[j]
  | t :: ts, a :: r, h, 0, _, _ => h.1
  | t :: ts, a :: r, h, j + 1, h1, h2 => dcls_get h.2 j (by simpa using h1) (by simpa using h2)
  | [], _, _, j, h1, _ => absurd h1 (Nat.not_lt_zero j)
  | _ :: _, [], h, _, _, _ => h.elim
def combF (acc : List Int) (x : List Int × Nat) : List Int × Nat := if x.2 = 0 then (acc ++ x.1, 0) else ([], x.2)
theorem comb_nil (x : List Int × Nat) (h : x.2 ≠ 0 → x.1 = []) : combF [] x = x := by
  unfold combF
  by_cases h0 : x.2 = 0
  · rw [if_pos h0]; exact Prod.ext rfl h0.symm
  · rw [if_neg h0]; exact Prod.ext (h h0).symm rfl
theorem rows_err : ∀ (ts : List Bool) (ws : List (List UInt8)), (rowsF ts ws).2 ≠ 0 → (rowsF ts ws).1 = []
  | [], [], h => rfl
  | _ :: _, [], h => rfl
  | [], _ :: _, h => rfl
  | t :: ts, w :: ws, h => by
    unfold rowsF at h ⊢
    by_cases h1 : (valF w t).2 = 0
    · rw [if_pos h1] at h ⊢
      by_cases h2 : (rowsF ts ws).2 = 0
      · rw [if_pos h2] at h; exact absurd rfl h
      · rw [if_neg h2]
    · rw [if_neg h1]
theorem comb_ok {acc : List Int} {t : Bool} {ts : List Bool} {w : List UInt8} {ws : List (List UInt8)} (h : (valF w t).2 = 0) : combF acc (rowsF (t :: ts) (w :: ws)) = combF (acc ++ [(valF w t).1]) (rowsF ts ws) := by
  unfold combF
  rw [rowsF, if_pos h]
  by_cases h2 : (rowsF ts ws).2 = 0
  · rw [if_pos h2, if_pos rfl, if_pos h2, List.append_assoc]; rfl
  · rw [if_neg h2, if_neg h2, if_neg h2]
theorem comb_bad {acc : List Int} {t : Bool} {ts : List Bool} {w : List UInt8} {ws : List (List UInt8)} (h : (valF w t).2 ≠ 0) : combF acc (rowsF (t :: ts) (w :: ws)) = ([], (valF w t).2) := by
  unfold combF
  rw [rowsF, if_neg h, if_neg h]
def roLB : Code := match Tryd.f23.body with
  | some (.seq _ (.seq _ (.seq _ (.seq (.seq _ (.block _ (.loop c))) _)))) => c
  | _ => .skip
theorem roLB_is : (match roLB with | .skip => false | _ => true) = true := by kernel_rfl
def RoEnd (ts : List Bool) (ws : List (List UInt8)) (v : AV) (S : St) (r : O) : Prop :=
  (∃ t' S' e, r = .out .ret ⟨t', []⟩ S' ∧ t'.get 4 = some .nils ∧ t'.get 5 = some (.v (.int .i64 ((e : Nat) : Int))) ∧ e ≠ 0 ∧ rowsF ts ws = ([], e)) ∨
  (∃ t' S' tk acc, r = .out (.exit 0) ⟨t', []⟩ S' ∧ t'.get 0 = some v ∧ t'.get 6 = some (.sl tk 0 1 (acc.map i64A)) ∧ acc.length = ws.length ∧ acc.length ≤ ts.length ∧ rowsF ts ws = combF acc (rowsF (ts.drop acc.length) []))
theorem fnz_34 : ∃ fn, EZ.F 34 = some fn := Option.isSome_iff_exists.1 (by kernel_rfl)
theorem fnz_22 : ∃ fn, EZ.F 22 = some fn := Option.isSome_iff_exists.1 (by kernel_rfl)
theorem ro_lp {ts : List Bool} {tok off : Nat} {es : List AV} (hd : dcls ts es) (hts : ts.length ≤ 1000) {wt wo : Nat} {ws : List (List UInt8)} (hws : ws.length ≤ 200000) (hwl : ∀ w ∈ ws, w.length ≤ 100000) : ∀ (n j tk : Nat) (acc : List Int) (t : T AV) (S : St), j + n = ws.length → acc.length = j → j ≤ ts.length → rowsF ts ws = combF acc (rowsF (ts.drop j) (ws.drop j)) → RowO 1 S tk (acc.map i64A) → 2 ≤ S.next → t.get 0 = some (.sl tok off 6 es) → t.get 6 = some (.sl tk 0 1 (acc.map i64A)) → t.get 18 = some (.sl wt wo 1 (ws.map strS)) → t.get 19 = some (.v (.int .i64 ((ws.length : Nat) : Int))) → t.get 20 = some (.v (.int .i64 ((j : Nat) : Int))) →
    WX EZ 53 (.loop roLB) ⟨t, []⟩ S (RoEnd ts ws (.sl tok off 6 es) S)
  | 0, j, tk, acc, t, S, hj, ha, hjt, hinv, RO, hn, T0, T6, T18, T19, T20 => by
    refine WX_loop (W_sound ?_)
    have hlt : decide ((j : Int) < (ws.length : Int)) = false := by rw [decide_eq_false_iff_not]; omega
    simp (maxSteps := 2000000) (disch := omega) only [thenW_exit, W_skip, W_region, W_seq, W_cond, W_block, W_exit, seqQ_normal2, seqQ_exit2, WL_nil2, WL_cons, execL_val2, putL_some2, condW_f2, wantedA, exec1, evalO, T.get_set, ofOpt, neNil3, fb_lss, Nat.reduceLT, Nat.reduceEqDiff, if_true, if_false, true_and, Bool.false_eq_true, ez_P, roLB, Tryd.f23, T20, T19, hlt]
    have hj : j = ws.length := by omega
    rw [List.drop_of_length_le (show ws.length ≤ j by omega)] at hinv
    refine .inr ⟨_, _, tk, acc, rfl, ?_, ?_, by omega, by omega, by rw [ha]; exact hinv⟩ <;> simp only [T.get_set, Nat.reduceEqDiff, if_false, T0, T6]
  | n + 1, j, tk, acc, t, S, hj, ha, hjt, hinv, RO, hn, T0, T6, T18, T19, T20 => by
    refine WX_loop (W_sound ?_)
    have hjw : j < ws.length := by omega
    have hlt : decide ((j : Int) < (ws.length : Int)) = true := by rw [decide_eq_true_eq]; omega
    have hw := wrapS j (by omega)
    obtain ⟨fn1, hf1⟩ := fnz_34
    have hel := dcls_len hd
    have hx := yxS wt wo (ws.map strS) j (by rw [List.length_map]; exact hjw)
    rw [List.getElem_map] at hx
    have hdw : ws.drop j = ws[j] :: ws.drop (j + 1) := List.drop_eq_getElem_cons hjw
    have hwj := hwl _ (List.getElem_mem hjw)
    have hcS : ∀ w : List UInt8, (strS w).cells = [strS w] := fun _ => rfl
    rw [hcS] at hx
    simp only [strS] at hx
    by_cases hge : ts.length ≤ j
    · have hgt : decide ((j : Int) ≥ (es.length : Int)) = true := by rw [decide_eq_true_eq]; omega
      simp (maxSteps := 2000000) (disch := omega) only [thenW_exit, thenW_ret, W_skip, W_region, W_seq, W_cond, W_block, W_exit, W_ret, seqQ_normal2, seqQ_exit2, seqQ_ret2, blockW_ret2, WL_nil2, WL_cons, execL_val2, putL_some2, condW_t2, wantedA, exec1, evalO, T.get_set, callA, ofOpt, ofConst, neNil3, fb_lss, fb_geq, Nat.reduceLT, Nat.reduceEqDiff, if_true, if_false, true_and, Bool.false_eq_true, ez_P, roLB, Tryd.f23, ynD, yle9, T0, T18, T19, T20, hlt, hx, hgt]
      refine .inl ⟨_, _, 12, rfl, ?_, ?_, by decide, ?_⟩
      · simp only [T.get_set, Nat.reduceEqDiff, if_true, if_false]
      · simp only [T.get_set, Nat.reduceEqDiff, if_true, if_false]; rfl
      · rw [hinv, hdw, List.drop_of_length_le hge]; rfl
    · have hgt : decide ((j : Int) ≥ (es.length : Int)) = false := by rw [decide_eq_false_iff_not]; omega
      have hjt2 : j < ts.length := by omega
      have hdt : ts.drop j = ts[j] :: ts.drop (j + 1) := List.drop_eq_getElem_cons hjt2
      have hy := yxD tok off es j (by omega)
      obtain ⟨nm, at_, fu, ck, of_, hdj⟩ := dcls_get hd j hjt2 (by omega)
      rw [hdj] at hy
      simp only [cells_agg] at hy
      rw [hdt, hdw] at hinv
      generalize ts[j] = tj at *
      generalize ws[j] = wj at *
      simp (maxSteps := 2000000) (disch := omega) only [thenW_exit, thenW_ret, W_skip, W_region, W_seq, W_cond, W_block, W_exit, W_ret, seqQ_normal2, seqQ_exit2, seqQ_ret2, blockW_ret2, WL_nil2, WL_cons, execL_val2, execL_enter2, putL_some2, condW_t2, condW_f2, wantedA, exec1, evalO, T.get_set, callA, mapO, ofOpt, ofConst, neNil3, fb_lss, fb_geq, Nat.reduceLT, Nat.reduceEqDiff, if_true, if_false, true_and, List.nil_append, List.append_nil, Bool.false_eq_true, ez_P, roLB, Tryd.f23, ynD, yle9, yle4, yfD_2, hf1, T0, T18, T19, T20, hlt, hx, hgt, hy]
      refine use_value hwj ?_
      by_cases he : (valF wj tj).2 = 0
      · have he0 : ((((valF wj tj).2 : Nat) : Int) != 0) = false := by rw [he]; rfl
        rw [comb_ok he] at hinv
        obtain ⟨bytes, hrt⟩ := ytI
        obtain ⟨S2, happ, ro2, n2, k2⟩ := push_row (E := EZ) hrt rfl rfl RO hn (i64A (valF wj tj).1) rfl (by rw [List.length_map]; omega)
        have hm : acc.map i64A ++ [i64A (valF wj tj).1] = (acc ++ [(valF wj tj).1]).map i64A := by rw [List.map_append]; rfl
        rw [hm] at happ ro2
        simp only [i64A] at happ
        simp (maxSteps := 2000000) (disch := omega) only [thenW_normal, thenW_ret, W_skip, W_region, W_seq, W_cond, W_ret, seqQ_normal2, seqQ_ret2, blockW_normal2, blockW_ret2, WL_nil2, WL_cons, execL_val2, putL_some2, retL_ret2, condW_f2, wantedA, exec1, evalO, T.get_set, callA, ofOpt, ofOptS, ofConst, partsA, neNil3, fb_add, fb_neqI, Nat.reduceLT, Nat.reduceEqDiff, if_true, if_false, true_and, List.getElem?_cons_succ, List.getElem?_cons_zero, Bool.false_eq_true, oExtract, ez_P, i64A, yrI_1, oExtract, T6, T20, he0, happ, hw]
        refine WX.mono (ro_lp (tok := tok) (off := off) (wt := wt) (wo := wo) hd hts hws hwl n (j + 1) S.next (acc ++ [(valF wj tj).1]) _ S2 (by omega) (by rw [List.length_append]; show acc.length + 1 = _; omega) (by omega) hinv ro2 (by omega) ?_ ?_ ?_ ?_ ?_) ?_
        · simp only [T.get_set, Nat.reduceEqDiff, if_false, T0]
        · simp only [T.get_set, Nat.reduceEqDiff, if_true, if_false]
        · simp only [T.get_set, Nat.reduceEqDiff, if_false, T18]
        · simp only [T.get_set, Nat.reduceEqDiff, if_false, T19]
        · simp only [T.get_set, Nat.reduceEqDiff, if_true, if_false]
        · intro r hr; exact hr
      · have he0 : ((((valF wj tj).2 : Nat) : Int) != 0) = true := by rw [bne_iff_ne]; omega
        rw [comb_bad he] at hinv
        simp (maxSteps := 2000000) (disch := omega) only [thenW_ret, W_skip, W_region, W_seq, W_cond, W_ret, seqQ_normal2, seqQ_ret2, blockW_ret2, WL_nil2, WL_cons, execL_val2, putL_some2, retL_ret2, condW_t2, wantedA, exec1, evalO, T.get_set, ofOpt, ofConst, neNil3, fb_neqI, Nat.reduceLT, Nat.reduceEqDiff, if_true, if_false, true_and, List.getElem?_cons_succ, List.getElem?_cons_zero, Bool.false_eq_true, oExtract, ez_P, i64A, oExtract, he0]
        refine .inl ⟨_, _, (valF wj tj).2, rfl, ?_, ?_, he, hinv⟩ <;> simp only [T.get_set, Nat.reduceEqDiff, if_true, if_false]
end Go.Ax
noncomputable section
namespace Go.Ax
open Go.RowKit Go.Proofs
set_option linter.unusedVariables false
set_option linter.unusedSimpArgs false
set_option maxRecDepth 100000
theorem row_fin {v : AV} {s : List UInt8} {ts : List Bool} (hv : isDcls v ts) {a : AV} {e : Nat} (hu : ∀ ts', isDcls v ts' → ts' = ts) (h : freeV a = true) (hc : clean a = rowVal ts (rowF ts s)) (he : (rowF ts s).2 = e) (hs : freeV v = true) (S' : St) : ∃ a' S'', R.ret (.tup [a, .v (.int .i64 (e : Int))]) S' = R.ret a' S'' ∧ freeV a' = true ∧ SpecZ 23 [v, strS s] (clean a') := by
  refine ⟨_, _, rfl, ?_, ?_⟩
  · show (freeV a && true) = true; rw [h]; rfl
  · intro v' ts' l hq hd h1 h2
    injection hq with h3 h4
    injection h4 with h4 _
    have := str_inj h4
    subst this; subst h3
    have := hu ts' hd
    subst this
    show AV.tup [clean a, _] = _
    rw [hc, he]; rfl
theorem dcl_inj {t t' : Bool} {a : AV} (h : dcl t a) (h' : dcl t' a) : t = t' := by
  obtain ⟨_, _, _, _, _, rfl⟩ := h
  obtain ⟨_, _, _, _, _, h'⟩ := h'
  simp only [AV.agg.injEq, List.cons.injEq, AV.v.injEq, Value.bool.injEq] at h'
  exact h'.2.2.1
theorem dcls_inj : ∀ {ts ts' : List Bool} {es : List AV}, dcls ts es → dcls ts' es → ts = ts'
  | [], [], [], _, _ => rfl
  | t :: ts, t' :: ts', a :: r, h, h' => by rw [dcl_inj h.1 h'.1, dcls_inj h.2 h'.2]
  | [], _ :: _, [], _, h' => h'.elim
  | _ :: _, _, [], h, _ => h.elim
  | [], _, _ :: _, h, _ => h.elim
  | _ :: _, [], _ :: _, _, h' => h'.elim
theorem isDcls_inj {v : AV} {ts ts' : List Bool} (h : isDcls v ts) (h' : isDcls v ts') : ts' = ts := by
  rcases h with ⟨rfl, rfl⟩ | ⟨tok, off, es, rfl, hd⟩
  · rcases h' with ⟨_, rfl⟩ | ⟨_, _, _, h, _⟩
    · rfl
    · cases h
  · rcases h' with ⟨h, _⟩ | ⟨_, _, _, h, hd'⟩
    · cases h
    · injection h with _ _ _ h
      subst h
      exact dcls_inj hd' hd
theorem row_k (v : AV) (ts : List Bool) (s : List UInt8) (hv : isDcls v ts) (hf : freeV v = true) (hts : ts.length ≤ 1000) (hl : s.length ≤ 100000) : KnZ 23 [v, strS s] := by
  refine bodyZ Tryd.f23 (by kernel_rfl) (by kernel_rfl) (show (_ : Nat) ≤ _ from by show (_ : Nat) ≤ _; simp [Tryd.f23]) ?_
  have hu := fun ts' => isDcls_inj hv (ts' := ts')
  by_cases ht : ts = []
  · subst ht
    have hz : (((0 : Nat) : Int) == 0) = true := rfl
    have key : ∀ S, oLen Tryd.prog S 25 v = some 0 := by
      intro S
      rcases hv with ⟨rfl, _⟩ | ⟨tok, off, es, rfl, hd⟩
      · exact ynnD S
      · rw [ynD]; have := dcls_len hd; rw [this]; rfl
    by_cases h46 : s = [46]
    · have e1 : decide (s = [46]) = true := by rw [decide_eq_true_eq]; exact h46
      simp (maxSteps := 2000000) (disch := omega) only [W_skip, W_region, W_seq, W_cond, W_ret, seqQ_normal2, seqQ_ret2, WL_nil2, WL_cons, execL_val2, putL_some2, condW_t2, wantedA, exec1, evalO, initT, T.get_set, T.get_leaf, callA, mapO, ofOpt, ofConst, partsA, neNil3, finW_ret, giveW, resultsA, tupA, fb_eqlI, fb_eqS, neNil9, Nat.reduceLT, Nat.reduceEqDiff, if_true, if_false, true_and, Option.getD_some, List.nil_append, List.append_nil, Bool.false_eq_true, Nat.zero_add, ez_P, ez_F, Tryd.f23, strS, neNil9, yrI_0, fb_eqS, initT, key, hz, e1]
      exact row_fin (e := 0) hv hu rfl (by unfold rowVal; rw [if_pos (.inl rfl)]; rfl) (by unfold rowF; rw [if_pos rfl, if_pos h46]) hf _
    · have e1 : decide (s = [46]) = false := by rw [decide_eq_false_iff_not]; exact h46
      simp (maxSteps := 2000000) (disch := omega) only [W_skip, W_region, W_seq, W_cond, W_ret, seqQ_normal2, seqQ_ret2, WL_nil2, WL_cons, execL_val2, putL_some2, condW_t2, condW_f2, wantedA, exec1, evalO, initT, T.get_set, T.get_leaf, callA, mapO, ofOpt, ofConst, partsA, neNil3, finW_ret, giveW, resultsA, tupA, fb_eqlI, fb_eqS, neNil9, Nat.reduceLT, Nat.reduceEqDiff, if_true, if_false, true_and, Option.getD_some, List.nil_append, List.append_nil, Bool.false_eq_true, Nat.zero_add, ez_P, ez_F, Tryd.f23, strS, neNil9, yrI_0, fb_eqS, initT, key, hz, e1]
      exact row_fin (e := 1) hv hu rfl (by unfold rowVal; rw [if_pos (.inl rfl)]; rfl) (by unfold rowF; rw [if_pos rfl, if_neg h46]) hf _
  · rcases hv with ⟨_, h⟩ | ⟨tok, off, es, rfl, hd⟩
    · exact absurd h ht
    have hv : isDcls (.sl tok off 6 es) ts := .inr ⟨tok, off, es, rfl, hd⟩
    have hel := dcls_len hd
    have hpos : 0 < ts.length := by cases ts with | nil => exact absurd rfl ht | cons _ _ => simp
    have hz : (((es.length : Nat) : Int) == 0) = false := by rw [beq_eq_false_iff_ne]; omega
    obtain ⟨hw1, hw2⟩ := split_len 32 s
    have hrF : rowF ts s = rowsF ts (splitB 32 s) := by unfold rowF; rw [if_neg ht]
    obtain ⟨fn2, hf2⟩ := fnz_22
    have lp := fun t S => ro_lp (tok := tok) (off := off) hd hts (wt := 0) (wo := 0) (ws := splitB 32 s) (by omega) (fun w hw => by have := hw2 w hw; omega) (splitB 32 s).length 0 1 [] t S (by omega) rfl (Nat.zero_le _) (by rw [List.drop_zero, List.drop_zero]; exact (comb_nil _ (rows_err _ _)).symm) (.inl rfl)
    unfold roLB at lp
    simp only [Tryd.f23] at lp
    simp (maxSteps := 2000000) (disch := omega) only [W_skip, W_region, W_seq, W_cond, W_ret, seqQ_normal2, seqQ_ret2, WL_nil2, WL_cons, execL_val2, execL_enter2, putL_some2, condW_f2, wantedA, exec1, evalO, initT, T.get_set, T.get_leaf, callA, mapO, ofOpt, ofConst, partsA, neNil3, finW_ret, giveW, resultsA, tupA, fb_eqlI, fb_eqS, neNil9, Nat.reduceLT, Nat.reduceEqDiff, if_true, if_false, true_and, Option.getD_some, List.nil_append, List.append_nil, Bool.false_eq_true, Nat.zero_add, ez_P, Tryd.f23, strS, neNil9, ynD, yrI_0, fb_eqS, initT, hz, hf2]
    refine use_split (c := 32) hl ?_
    generalize hws : splitB 32 s = ws at *
    simp (maxSteps := 2000000) (disch := omega) only [W_block, W_loop, seqQ_normal2, WL_nil2, WL_cons, execL_val2, putL_some2, retL_ret2, wantedA, exec1, evalO, T.get_set, T.get_leaf, callA, ofOpt, ofConst, Nat.reduceLT, Nat.reduceEqDiff, if_true, if_false, true_and, ez_P, ynS, List.length_map]
    refine WX.mono (lp _ _ ?_ ?_ ?_ ?_ ?_ ?_) ?_
    · simp only [st0_next]; omega
    · simp only [T.get_set, T.get_leaf, Nat.reduceEqDiff, if_true, if_false] <;> rfl
    · simp only [T.get_set, T.get_leaf, Nat.reduceEqDiff, if_true, if_false] <;> rfl
    · simp only [T.get_set, T.get_leaf, Nat.reduceEqDiff, if_true, if_false] <;> rfl
    · simp only [T.get_set, T.get_leaf, Nat.reduceEqDiff, if_true, if_false] <;> rfl
    · simp only [T.get_set, T.get_leaf, Nat.reduceEqDiff, if_true, if_false] <;> rfl
    intro r' hr
    rcases hr with ⟨t', S', e, rfl, r4, r5, he, hR⟩ | ⟨t', S', tk, acc, rfl, r0, r6, hal, hat, hR⟩
    · simp (maxSteps := 2000000) (disch := omega) only [seqQ_ret2, blockW_ret2, finW_ret, giveW, resultsA, tupA, r4, r5]
      refine row_fin hv hu rfl ?_ ?_ hf _
      · unfold rowVal; rw [hrF, hR, if_pos (.inr he)]; rfl
      · rw [hrF, hR]
    · by_cases hlt : acc.length < ts.length
      · have hd1 : decide (((acc.length : Nat) : Int) < ((es.length : Nat) : Int)) = true := by rw [decide_eq_true_eq]; omega
        have hdr : ts.drop acc.length = ts[acc.length] :: ts.drop (acc.length + 1) := List.drop_eq_getElem_cons hlt
        have h12 : rowsF ts ws = ([], 12) := by rw [hR, hdr]; rfl
        simp (maxSteps := 2000000) (disch := omega) only [W_skip, W_region, W_seq, W_cond, W_ret, seqQ_normal2, seqQ_exit2, seqQ_ret2, blockW_exit2, WL_nil2, WL_cons, execL_val2, putL_some2, condW_t2, wantedA, exec1, evalO, T.get_set, callA, ofOpt, ofConst, neNil3, finW_ret, giveW, resultsA, tupA, fb_lss, Nat.reduceLT, Nat.reduceEqDiff, if_true, if_false, true_and, Bool.false_eq_true, ez_P, ynD, ynI, List.length_map, r0, r6, hd1]
        refine row_fin (e := 12) hv hu rfl ?_ ?_ hf _
        · unfold rowVal; rw [hrF, h12, if_pos (.inr (by decide))]; rfl
        · rw [hrF, h12]
      · have hd1 : decide (((acc.length : Nat) : Int) < ((es.length : Nat) : Int)) = false := by rw [decide_eq_false_iff_not]; omega
        have h0 : rowsF ts ws = (acc, 0) := by
          rw [hR, List.drop_of_length_le (by omega)]
          show ((if (0 : Nat) = 0 then _ else _) : List Int × Nat) = _
          rw [if_pos rfl]; show (acc ++ [], 0) = _; rw [List.append_nil]
        simp (maxSteps := 2000000) (disch := omega) only [W_skip, W_region, W_seq, W_cond, W_ret, seqQ_normal2, seqQ_exit2, seqQ_ret2, blockW_exit2, WL_nil2, WL_cons, execL_val2, putL_some2, condW_f2, wantedA, exec1, evalO, T.get_set, callA, ofOpt, ofConst, neNil3, finW_ret, giveW, resultsA, tupA, fb_lss, Nat.reduceLT, Nat.reduceEqDiff, if_true, if_false, true_and, Bool.false_eq_true, ez_P, ynD, ynI, List.length_map, r0, r6, hd1]
        refine row_fin (a := .sl tk 0 1 (acc.map i64A)) (e := 0) hv hu (ints_free acc).1 ?_ ?_ hf _
        · unfold rowVal
          rw [hrF, h0, if_neg (by rintro (h | h) <;> first | exact ht h | exact h rfl)]
          show AV.sl 0 0 1 (cleanL _) = _
          rw [(ints_free acc).2]
        · rw [hrF, h0]
theorem use_row {S : St} {Q : R → Prop} {v : AV} {ts : List Bool} {l : List UInt8} (hv : isDcls v ts) (hf : freeV v = true) (hc : clean v = v) (hts : ts.length ≤ 1000) (hl : l.length ≤ 100000) (h : Q (.ret (.tup [rowVal ts (rowF ts l), i64A (rowF ts l).2]) S)) : WC EZ 23 [v, strS l] S Q :=
  callZ (row_k v ts l hv hf hts hl) (by kernel_rfl) (by show (freeV v && true) = true; rw [hf]; rfl) (by show [clean v, _] = _; rw [hc]; rfl) fun a _ _ hs => by
    have := hs v ts l rfl hv hts hl
    subst this
    exact h
end Go.Ax
noncomputable section
namespace Go.Ax
open Go.RowKit Go.Proofs
set_option linter.unusedVariables false
set_option linter.unusedSimpArgs false
set_option maxRecDepth 100000
def maxG (x y : Value) : Operand → Value := fun z => match z with
  | .tmp 0 => x
  | _ => y
def eqOrX (P : Program) (G : Gl) (f : T AV) (S : St) (o : Oper) (op : BinOp) (t : TypeId) (a b : AV) : OR := eqOr P G f S o op t a b
theorem itoa_len (n : Int) (h : -9223372036854775808 ≤ n ∧ n ≤ 9223372036854775807) : (Lib.itoa n).length ≤ 21 := Lib.itoa_length_le n h.1 h.2
theorem quo_eq (F : Operand → Value) (dst : Option Tmp) (k : Tmp) (c : Int) (ty ty2 : TypeId) (pos : String) (af : Array Edge) (gd : Option (Nat × Bool)) : execOp F { dst := dst, op := .binOp .quo 2 (.tmp k) (.const (.int .i64 c)) ty2, type := ty, pos := pos, after := af, guard := gd } = execOp (maxG (F (.tmp k)) (F (.const (.int .i64 c)))) { dst := none, op := .binOp .quo 2 (.tmp 0) (.tmp 1) 2, type := ty, pos := "", after := #[], guard := none } := by kernel_rfl
theorem quo_val (a : Int) (ty : TypeId) : pureN Tryd.prog 4000 (execOp (maxG (.int .i64 a) (.int .i64 10)) { dst := none, op := .binOp .quo 2 (.tmp 0) (.tmp 1) 2, type := ty, pos := "", after := #[], guard := none }) = some (.int .i64 (IntKind.i64.wrap (a.tdiv 10))) := by kernel_rfl
def quoO (r : OR) (S : St) (x : Option AV) : OR := match x with
  | some (.v (.int .i64 a)) => .val (.v (.int .i64 (IntKind.i64.wrap (a.tdiv 10)))) S
  | _ => r
theorem quoO_i (r : OR) (S : St) (a : Int) : quoO r S (some (.v (.int .i64 a))) = .val (.v (.int .i64 (IntKind.i64.wrap (a.tdiv 10)))) S := _root_.id rfl
theorem fb_quo (a c : Int) : fastBin .quo (.v (.int .i64 a)) (.v (.int .i64 c)) = none := by simp [fastBin]
theorem eqOr_quo (f : T AV) (S : St) (dst : Option Tmp) (k : Tmp) (x : Int) (ty ty2 : TypeId) (pos : String) (af : Array Edge) (gd : Option (Nat × Bool)) :
    eqOr Tryd.prog gZ f S { dst := dst, op := .binOp .quo 2 (.tmp k) (.const (.int .i64 10)) ty2, type := ty, pos := pos, after := af, guard := gd } .quo 2 (.v (.int .i64 x)) (.v (.int .i64 10)) = quoO (eqOrX Tryd.prog gZ f S { dst := dst, op := .binOp .quo 2 (.tmp k) (.const (.int .i64 10)) ty2, type := ty, pos := pos, after := af, guard := gd } .quo 2 (.v (.int .i64 x)) (.v (.int .i64 10))) S (f.get k) := by
  unfold quoO
  split
  · rename_i a h1
    have hg1 : groundO gZ f (.tmp k) = some (.int .i64 a) := by unfold groundO; simp only [evalO, h1]; rfl
    have hg2 : groundO gZ f (.const (.int .i64 10)) = some (.int .i64 10) := rfl
    have h0 : fastEq Tryd.prog .quo 2 (.v (.int .i64 x)) (.v (.int .i64 10)) = none := rfl
    unfold eqOr
    rw [h0]
    simp only
    unfold ground
    have hall : ((Op.binOp .quo 2 (.tmp k) (.const (.int .i64 10)) ty2 : Op).operands.toList.all fun x => (groundO gZ f x).isSome) = true := by
      show ([Operand.tmp k, Operand.const (.int .i64 10)].all fun x => (groundO gZ f x).isSome) = true
      simp only [List.all_cons, List.all_nil, hg1, hg2, Option.isSome_some, Bool.and_self]
    refine (if_pos hall).trans ?_
    rw [quo_eq]
    have e1 : (groundO gZ f (.tmp k)).getD undef = .int .i64 a := by rw [hg1]; rfl
    have e2 : (groundO gZ f (.const (.int .i64 10))).getD undef = .int .i64 10 := by rw [hg2]; rfl
    simp only [e1, e2, quo_val]
    rfl
  · rfl
theorem fb_rem (k : IntKind) (x y : Int) (h : 0 < y) : fastBin .rem (.v (.int k x)) (.v (.int k y)) = some (.v (.int k (x.tmod y))) := by simp [fastBin, h]
theorem wrap_small (n : Int) (h : -1000000000 ≤ n ∧ n ≤ 1000000000) : IntKind.i64.wrap n = n := IntWalk.i64_in _ (by omega)
theorem dig_0 : fastSlice Tryd.prog 9 (.v (.string ⟨⟨[48, 49, 50, 51, 52, 53, 54, 55, 56, 57]⟩⟩)) (some (.v (.int .i64 ((0 : Nat) : Int)))) (some (.v (.int .i64 ((0 + 1 : Nat) : Int)))) = some (.v (.string ⟨⟨[UInt8.ofNat (48 + 0)]⟩⟩)) := by kernel_rfl
theorem dig_1 : fastSlice Tryd.prog 9 (.v (.string ⟨⟨[48, 49, 50, 51, 52, 53, 54, 55, 56, 57]⟩⟩)) (some (.v (.int .i64 ((1 : Nat) : Int)))) (some (.v (.int .i64 ((1 + 1 : Nat) : Int)))) = some (.v (.string ⟨⟨[UInt8.ofNat (48 + 1)]⟩⟩)) := by kernel_rfl
theorem dig_2 : fastSlice Tryd.prog 9 (.v (.string ⟨⟨[48, 49, 50, 51, 52, 53, 54, 55, 56, 57]⟩⟩)) (some (.v (.int .i64 ((2 : Nat) : Int)))) (some (.v (.int .i64 ((2 + 1 : Nat) : Int)))) = some (.v (.string ⟨⟨[UInt8.ofNat (48 + 2)]⟩⟩)) := by kernel_rfl
theorem dig_3 : fastSlice Tryd.prog 9 (.v (.string ⟨⟨[48, 49, 50, 51, 52, 53, 54, 55, 56, 57]⟩⟩)) (some (.v (.int .i64 ((3 : Nat) : Int)))) (some (.v (.int .i64 ((3 + 1 : Nat) : Int)))) = some (.v (.string ⟨⟨[UInt8.ofNat (48 + 3)]⟩⟩)) := by kernel_rfl
theorem dig_4 : fastSlice Tryd.prog 9 (.v (.string ⟨⟨[48, 49, 50, 51, 52, 53, 54, 55, 56, 57]⟩⟩)) (some (.v (.int .i64 ((4 : Nat) : Int)))) (some (.v (.int .i64 ((4 + 1 : Nat) : Int)))) = some (.v (.string ⟨⟨[UInt8.ofNat (48 + 4)]⟩⟩)) := by kernel_rfl
theorem dig_5 : fastSlice Tryd.prog 9 (.v (.string ⟨⟨[48, 49, 50, 51, 52, 53, 54, 55, 56, 57]⟩⟩)) (some (.v (.int .i64 ((5 : Nat) : Int)))) (some (.v (.int .i64 ((5 + 1 : Nat) : Int)))) = some (.v (.string ⟨⟨[UInt8.ofNat (48 + 5)]⟩⟩)) := by kernel_rfl
theorem dig_6 : fastSlice Tryd.prog 9 (.v (.string ⟨⟨[48, 49, 50, 51, 52, 53, 54, 55, 56, 57]⟩⟩)) (some (.v (.int .i64 ((6 : Nat) : Int)))) (some (.v (.int .i64 ((6 + 1 : Nat) : Int)))) = some (.v (.string ⟨⟨[UInt8.ofNat (48 + 6)]⟩⟩)) := by kernel_rfl
theorem dig_7 : fastSlice Tryd.prog 9 (.v (.string ⟨⟨[48, 49, 50, 51, 52, 53, 54, 55, 56, 57]⟩⟩)) (some (.v (.int .i64 ((7 : Nat) : Int)))) (some (.v (.int .i64 ((7 + 1 : Nat) : Int)))) = some (.v (.string ⟨⟨[UInt8.ofNat (48 + 7)]⟩⟩)) := by kernel_rfl
theorem dig_8 : fastSlice Tryd.prog 9 (.v (.string ⟨⟨[48, 49, 50, 51, 52, 53, 54, 55, 56, 57]⟩⟩)) (some (.v (.int .i64 ((8 : Nat) : Int)))) (some (.v (.int .i64 ((8 + 1 : Nat) : Int)))) = some (.v (.string ⟨⟨[UInt8.ofNat (48 + 8)]⟩⟩)) := by kernel_rfl
theorem dig_9 : fastSlice Tryd.prog 9 (.v (.string ⟨⟨[48, 49, 50, 51, 52, 53, 54, 55, 56, 57]⟩⟩)) (some (.v (.int .i64 ((9 : Nat) : Int)))) (some (.v (.int .i64 ((9 + 1 : Nat) : Int)))) = some (.v (.string ⟨⟨[UInt8.ofNat (48 + 9)]⟩⟩)) := by kernel_rfl
theorem digSl (k : Nat) (h : k < 10) : fastSlice Tryd.prog 9 (.v (.string ⟨⟨[48, 49, 50, 51, 52, 53, 54, 55, 56, 57]⟩⟩)) (some (.v (.int .i64 (k : Int)))) (some (.v (.int .i64 ((k + 1 : Nat) : Int)))) = some (.v (.string ⟨⟨[UInt8.ofNat (48 + k)]⟩⟩)) := by
  match k, h with
  | 0, _ => exact dig_0
  | 1, _ => exact dig_1
  | 2, _ => exact dig_2
  | 3, _ => exact dig_3
  | 4, _ => exact dig_4
  | 5, _ => exact dig_5
  | 6, _ => exact dig_6
  | 7, _ => exact dig_7
  | 8, _ => exact dig_8
  | 9, _ => exact dig_9
  | k + 10, h => exact absurd h (by omega)
theorem itoa_neg (n : Int) (h : n < 0) : Lib.itoa n = 45 :: Lib.decDigits n.natAbs := by unfold Lib.itoa; rw [if_pos h]
theorem itoa_pos (n : Int) (h : ¬ n < 0) : Lib.itoa n = Lib.decDigits n.natAbs := by unfold Lib.itoa; rw [if_neg h, show n.toNat = n.natAbs by omega]
theorem dec_small (k : Nat) (h : k < 10) : Lib.decDigits k = [UInt8.ofNat (48 + k)] := by rw [Lib.decDigits, dif_pos h]
theorem dec_big (k : Nat) (h : ¬ k < 10) : Lib.decDigits k = Lib.decDigits (k / 10) ++ [UInt8.ofNat (48 + k % 10)] := by rw [Lib.decDigits, dif_neg h]
theorem tdiv_abs (n : Int) : (n.tdiv 10).natAbs = n.natAbs / 10 := by rw [Int.natAbs_tdiv]; rfl
theorem tmod_abs (n : Int) : (n.tmod 10).natAbs = n.natAbs % 10 := by simp [Int.natAbs_tmod]
theorem fnz_37 : ∃ fn, EZ.F 37 = some fn := Option.isSome_iff_exists.1 (by kernel_rfl)
theorem digits_w : ∀ (N : Nat) (n : Int), 2 * n.natAbs + (if n < 0 then 1 else 0) < N → -9223372036854775808 ≤ n ∧ n ≤ 9223372036854775807 → ∀ S, WC EZ 37 [.v (.int .i64 n)] S (fun r => r = .ret (strS (Lib.itoa n)) S)
  | 0, n, h, _, S => absurd h (Nat.not_lt_zero _)
  | N + 1, n, hN, hb, S => by
    refine WC_fn Tryd.f37 (by kernel_rfl) (by kernel_rfl) (by kernel_rfl) (show (_ : Nat) ≤ _ from by show (_ : Nat) ≤ _; simp [Tryd.f37]) ?_
    obtain ⟨fn1, hf1⟩ := fnz_37
    have ih := digits_w N
    have td := tdiv_abs n
    have tm := tmod_abs n
    have hlen := fun m h => itoa_len m h
    have hd := Int.mul_tdiv_add_tmod n 10
    by_cases hneg : n < 0
    · rw [if_pos hneg] at hN
      by_cases h10 : n > -10
      · have hw : IntKind.i64.wrap (0 - n) = -n := by rw [wrap_small _ (by omega)]; omega
        have hc := fb_catS [45] (Lib.itoa (-n)) (by have := hlen (-n) (by omega); simp; omega)
        simp only [W_skip, W_region, W_drawn, W_seq, W_cond, seqQ_normal2, WL_nil2, WL_cons, execL_val2, execL_enter2, putL_some2, condW_t2, wantedA, exec1, evalO, initT, T.get_set, T.get_leaf, callA, mapO, ofOpt, ofConst, fb_lss, fb_gtr, fb_add, Nat.reduceLT, Nat.reduceEqDiff, if_true, if_false, true_and, Option.getD_some, List.nil_append, List.append_nil, Bool.false_eq_true, decide_true, Option.toList, List.head?_cons, ez_P, ez_G, neNil2, decide_true, Tryd.f37, hneg, h10, gneg, negO_i, hw, hf1]
        refine WC.mono (ih (-n) (by rw [if_neg (by omega)]; omega) (by omega) S) ?_
        rintro _ rfl
        unfold strS
        simp only [W_ret, seqQ_normal2, seqQ_ret2, WL_nil2, WL_cons, execL_val2, putL_some2, retL_ret2, wantedA, exec1, evalO, T.get_set, T.get_leaf, ofOpt, ofConst, finW_ret, giveW, resultsA, tupA, Nat.reduceLT, Nat.reduceEqDiff, if_true, if_false, true_and, Bool.false_eq_true, ez_P, neNil9, hc]
        rw [itoa_neg n hneg, itoa_pos (-n) (by omega), Int.natAbs_neg]
        rfl
      · have hq : IntKind.i64.wrap (n.tdiv 10) = n.tdiv 10 := IntWalk.i64_in _ (by omega)
        have hr := fb_rem .i64 n 10 (by omega)
        have hw : IntKind.i64.wrap (0 - n.tmod 10) = -(n.tmod 10) := by rw [wrap_small _ (by omega)]; omega
        have hc := fb_catS (Lib.itoa (n.tdiv 10)) (Lib.itoa (-(n.tmod 10))) (by have := hlen (n.tdiv 10) (by omega); have := hlen (-(n.tmod 10)) (by omega); omega)
        simp only [W_skip, W_region, W_drawn, W_seq, W_cond, seqQ_normal2, WL_nil2, WL_cons, execL_val2, execL_enter2, putL_some2, condW_t2, condW_f2, wantedA, exec1, evalO, initT, T.get_set, T.get_leaf, callA, mapO, ofOpt, ofConst, fb_lss, fb_gtr, fb_add, Nat.reduceLT, Nat.reduceEqDiff, if_true, if_false, true_and, Option.getD_some, List.nil_append, List.append_nil, Bool.false_eq_true, decide_true, decide_false, Option.toList, List.head?_cons, ez_P, ez_G, neNil2, decide_true, decide_false, Tryd.f37, hneg, h10, fb_quo, eqOr_quo, quoO_i, hq, hf1]
        refine WC.mono (ih (n.tdiv 10) (by split <;> omega) (by omega) S) ?_
        rintro _ rfl
        simp only [WL_cons, execL_val2, execL_enter2, putL_some2, retL_ret2, wantedA, exec1, evalO, T.get_set, T.get_leaf, callA, mapO, ofOpt, ofConst, Nat.reduceLT, Nat.reduceEqDiff, if_true, if_false, true_and, List.nil_append, List.append_nil, Bool.false_eq_true, ez_P, ez_G, neNil2, hr, gneg, negO_i, hw, hf1]
        refine WC.mono (ih (-(n.tmod 10)) (by rw [if_neg (by omega)]; omega) (by omega) S) ?_
        rintro _ rfl
        unfold strS
        simp only [W_ret, seqQ_normal2, seqQ_ret2, WL_nil2, WL_cons, execL_val2, putL_some2, retL_ret2, wantedA, exec1, evalO, T.get_set, T.get_leaf, ofOpt, finW_ret, giveW, resultsA, tupA, Nat.reduceLT, Nat.reduceEqDiff, if_true, if_false, true_and, Bool.false_eq_true, ez_P, neNil9, hc]
        have e1 : n.tdiv 10 < 0 := by omega
        rw [itoa_neg n hneg, itoa_neg _ e1, itoa_pos _ (by omega), Int.natAbs_neg, td, tm, dec_big n.natAbs (by omega), dec_small (n.natAbs % 10) (by omega)]
        rfl
    · rw [if_neg hneg] at hN
      by_cases h10 : n < 10
      · obtain ⟨k, rfl⟩ : ∃ k : Nat, n = k := ⟨n.toNat, by omega⟩
        have hw := wrap_one (i := k) (by omega)
        have hs := digSl k (by omega)
        simp only [W_skip, W_region, W_drawn, W_seq, W_cond, W_ret, seqQ_normal2, seqQ_ret2, WL_nil2, WL_cons, execL_val2, putL_some2, condW_t2, condW_f2, wantedA, exec1, evalO, initT, T.get_set, T.get_leaf, mapO, ofOpt, ofConst, finW_ret, giveW, resultsA, tupA, fb_lss, fb_gtr, fb_add, Nat.reduceLT, Nat.reduceEqDiff, if_true, if_false, true_and, Option.getD_some, Bool.false_eq_true, decide_true, decide_false, Option.toList, List.head?_cons, ez_P, ez_G, neNil2, decide_true, decide_false, Tryd.f37, hneg, h10, hw, hs]
        rw [itoa_pos _ hneg, Int.natAbs_natCast, dec_small k (by omega)]
        rfl
      · have hq : IntKind.i64.wrap (n.tdiv 10) = n.tdiv 10 := IntWalk.i64_in _ (by omega)
        have hr := fb_rem .i64 n 10 (by omega)
        obtain ⟨d, hdd⟩ : ∃ d : Nat, n.tmod 10 = d := ⟨(n.tmod 10).toNat, by omega⟩
        have hd9 : d < 10 := by omega
        rw [hdd] at hr
        have hw := wrap_one (i := d) (by omega)
        have hs := digSl d hd9
        have hc := fb_catS (Lib.itoa (n.tdiv 10)) [UInt8.ofNat (48 + d)] (by have := hlen (n.tdiv 10) (by omega); simp; omega)
        simp only [W_skip, W_region, W_drawn, W_seq, W_cond, seqQ_normal2, WL_nil2, WL_cons, execL_val2, putL_some2, condW_f2, wantedA, exec1, evalO, initT, T.get_set, T.get_leaf, mapO, ofOpt, ofConst, fb_lss, fb_gtr, fb_add, Nat.reduceLT, Nat.reduceEqDiff, if_true, if_false, true_and, Option.getD_some, Bool.false_eq_true, decide_false, Option.toList, List.head?_cons, ez_P, ez_G, neNil2, decide_false, Tryd.f37, hneg, h10]
        refine WD_by [(0, true), (1, true), (3, true), (4, true), (5, true), (6, true), (7, true), (8, true), (2, true), (9, true), (10, true)] (by kernel_rfl) (by kernel_rfl) ?_
        simp only [wantedA, exec1, evalO, T.get_set, T.get_leaf, callA, mapO, ofOpt, ofConst, fb_add, Nat.reduceLT, Nat.reduceEqDiff, if_true, if_false, true_and, List.getElem?_toArray, List.getElem?_cons_succ, List.getElem?_cons_zero, List.nil_append, List.append_nil, Bool.false_eq_true, Option.toList, List.head?_cons, ez_P, ez_G, neNil2, fb_quo, eqOr_quo, quoO_i, hq, hr, hw, hs, hf1, WR_op, execR_val2, execR_enter2, putRW_some2, rsOf]
        refine WC.mono (ih (n.tdiv 10) (by split <;> omega) (by omega) S) ?_
        rintro _ rfl
        unfold strS
        simp only [W_ret, seqQ_normal2, wantedA, exec1, evalO, T.get_set, T.get_leaf, ofOpt, finW_ret, giveW, resultsA, tupA, Nat.reduceLT, Nat.reduceEqDiff, if_true, if_false, true_and, Bool.false_eq_true, ez_P, neNil9, hc, WR_nil2, WR_op, execR_val2, putRW_some2, retRW_ret2, fixQ_normal2]
        have e1 : ¬ n.tdiv 10 < 0 := by omega
        rw [itoa_pos n hneg, itoa_pos _ e1, td, dec_big n.natAbs (by omega), show n.natAbs % 10 = d by omega]
end Go.Ax
noncomputable section
namespace Go.Ax
open Go.RowKit Go.Proofs
set_option linter.unusedVariables false
set_option linter.unusedSimpArgs false
set_option maxRecDepth 100000
theorem digits_any (n : Int) (h : -9223372036854775808 ≤ n ∧ n ≤ 9223372036854775807) (S : St) : WC EZ 37 [.v (.int .i64 n)] S (fun r => r = .ret (strS (Lib.itoa n)) S) := digits_w _ n (Nat.lt_succ_self _) h S
theorem word_len (v : Int) (t : Bool) (h : -9223372036854775808 ≤ v ∧ v ≤ 9223372036854775807) : (wordF v t).length ≤ 21 := by
  unfold wordF
  split
  · split <;> simp
  · exact itoa_len v h
theorem word_w (v : Int) (t : Bool) (h : -9223372036854775808 ≤ v ∧ v ≤ 9223372036854775807) (S : St) : WC EZ 25 [.v (.int .i64 v), .v (.bool t)] S (fun r => r = .ret (strS (wordF v t)) S) := by
  refine WC_fn Tryd.f25 (by kernel_rfl) (by kernel_rfl) (by kernel_rfl) (show (_ : Nat) ≤ _ from by show (_ : Nat) ≤ _; simp [Tryd.f25]) ?_
  obtain ⟨fn1, hf1⟩ := fnz_37
  cases t with
  | false =>
    simp (maxSteps := 2000000) (disch := omega) only [W_skip, W_region, W_seq, W_cond, W_ret, seqQ_normal2, seqQ_ret2, WL_nil2, WL_cons, execL_val2, execL_enter2, putL_some2, condW_t2, wantedA, exec1, evalO, initT, T.get_set, T.get_leaf, callA, mapO, ofOpt, ofConst, finW_ret, giveW, resultsA, tupA, notO_bool, fb_neqI, Nat.reduceLT, Nat.reduceEqDiff, if_true, if_false, true_and, Option.getD_some, List.nil_append, List.append_nil, Bool.false_eq_true, Bool.not_false, Nat.zero_add, ez_P, ez_G, gnot, Tryd.f25, strS, neNil2, initT, hf1]
    refine WC.mono (digits_any v h S) ?_
    rintro _ rfl
    simp only [strS]
    simp (maxSteps := 2000000) (disch := omega) only [W_ret, seqQ_normal2, seqQ_ret2, WL_nil2, WL_cons, execL_val2, putL_some2, retL_ret2, wantedA, exec1, evalO, T.get_set, T.get_leaf, ofOpt, finW_ret, giveW, resultsA, tupA, Nat.reduceLT, Nat.reduceEqDiff, if_true, if_false, true_and]
    rfl
  | true =>
    by_cases h0 : v = 0
    · have e0 : (v != 0) = false := by rw [h0]; rfl
      simp (maxSteps := 2000000) (disch := omega) only [W_skip, W_region, W_seq, W_cond, W_ret, seqQ_normal2, seqQ_ret2, WL_nil2, WL_cons, execL_val2, putL_some2, condW_f2, wantedA, exec1, evalO, initT, T.get_set, T.get_leaf, callA, mapO, ofOpt, ofConst, finW_ret, giveW, resultsA, tupA, notO_bool, fb_neqI, Nat.reduceLT, Nat.reduceEqDiff, if_true, if_false, true_and, Option.getD_some, List.nil_append, List.append_nil, Bool.false_eq_true, Bool.not_true, Nat.zero_add, ez_P, ez_G, ez_F, gnot, Tryd.f25, strS, neNil2, initT, e0]
      rw [show wordF v true = [102, 97, 108, 115, 101] from by unfold wordF; rw [if_pos rfl, if_pos h0]]
    · have e0 : (v != 0) = true := by rw [bne_iff_ne]; exact h0
      simp (maxSteps := 2000000) (disch := omega) only [W_skip, W_region, W_seq, W_cond, W_ret, seqQ_normal2, seqQ_ret2, WL_nil2, WL_cons, execL_val2, putL_some2, condW_t2, condW_f2, wantedA, exec1, evalO, initT, T.get_set, T.get_leaf, callA, mapO, ofOpt, ofConst, finW_ret, giveW, resultsA, tupA, notO_bool, fb_neqI, Nat.reduceLT, Nat.reduceEqDiff, if_true, if_false, true_and, Option.getD_some, List.nil_append, List.append_nil, Bool.false_eq_true, Bool.not_true, Nat.zero_add, ez_P, ez_G, ez_F, gnot, Tryd.f25, strS, neNil2, initT, e0]
      rw [show wordF v true = [116, 114, 117, 101] from by unfold wordF; rw [if_pos rfl, if_neg h0]]
end Go.Ax
noncomputable section
namespace Go.Ax
open Go.RowKit Go.Proofs
set_option linter.unusedVariables false
set_option linter.unusedSimpArgs false
set_option maxRecDepth 100000
theorem gd_in {α : Type} (l : List α) (j : Nat) (d : α) (h : j < l.length) : l.getD j d = l[j] := by simp [List.getD, List.getElem?_eq_getElem h]
theorem gd_out {α : Type} (l : List α) (j : Nat) (d : α) (h : l.length ≤ j) : l.getD j d = d := by simp [List.getD, List.getElem?_eq_none h]
theorem fnz_25 : ∃ fn, EZ.F 25 = some fn := Option.isSome_iff_exists.1 (by kernel_rfl)
def rwLB : Code := match Tryd.f16.body with
  | some (.seq _ (.seq _ (.seq _ (.seq (.seq _ (.block _ (.loop c))) _)))) => c
  | _ => .skip
theorem rwLB_is : (match rwLB with | .skip => false | _ => true) = true := by kernel_rfl
theorem getD_ok {vs : List Int} (h : okInts vs) (j : Nat) : -9223372036854775808 ≤ vs.getD j 0 ∧ vs.getD j 0 ≤ 9223372036854775807 := by
  by_cases hj : j < vs.length
  · rw [gd_in _ _ _ hj]; exact h _ (List.getElem_mem hj)
  · rw [gd_out _ _ _ (by omega)]; decide
theorem line_len {ts : List Bool} {vs : List Int} (h : okInts vs) : ∀ j, (lineTo ts vs j).length ≤ 22 * j
  | 0 => Nat.le_refl _
  | j + 1 => by
    have ih := line_len (ts := ts) h j
    have hw := word_len (vs.getD j 0) (ts.getD j false) (getD_ok h j)
    rw [lineTo, List.length_append, List.length_append]
    split <;> simp only [List.length_nil, List.length_cons] <;> omega
theorem ints_len {w : AV} {vs : List Int} (h : isInts w vs) (S : St) : oLen Tryd.prog S 42 w = some vs.length := by
  rcases h with ⟨rfl, rfl⟩ | ⟨tok, off, rfl⟩ | ⟨a, rfl, rfl⟩
  · exact ynnI S
  · rw [ynI, List.length_map]
  · simp [oLen, yuI]
theorem ints_idx {w : AV} {vs : List Int} (h : isInts w vs) (j : Nat) (hj : j < vs.length) : oIndexAddr Tryd.prog 42 w (.v (.int .i64 (j : Int))) = some (.ep [i64A (vs.getD j 0)]) := by
  rcases h with ⟨rfl, rfl⟩ | ⟨tok, off, rfl⟩ | ⟨a, rfl, rfl⟩
  · exact absurd hj (Nat.not_lt_zero _)
  · rw [yxI tok off _ j (by rw [List.length_map]; exact hj), List.getElem_map, gd_in _ _ _ hj]; rfl
  · exact absurd hj (Nat.not_lt_zero _)
theorem rw_lp {ts : List Bool} {tok off : Nat} {es : List AV} (hd : dcls ts es) (hts : ts.length ≤ 1000) {w : AV} {vs : List Int} (hw : isInts w vs) (hk : okInts vs) : ∀ (n j : Nat) (t : T AV) (S : St), j + n = ts.length → t.get 1 = some w → t.get 5 = some (strS (lineTo ts vs j)) → t.get 12 = some (.sl tok off 6 es) → t.get 13 = some (.v (.int .i64 ((es.length : Nat) : Int))) → t.get 14 = some (.v (.int .i64 ((j : Nat) : Int))) →
    WX EZ 39 (.loop rwLB) ⟨t, []⟩ S (fun r => ∃ t' S', r = .out (.exit 0) ⟨t', []⟩ S' ∧ t'.get 5 = some (strS (lineTo ts vs ts.length)))
  | 0, j, t, S, hj, T1, T5, T12, T13, T14 => by
    refine WX_loop (W_sound ?_)
    have hel := dcls_len hd
    have hlt : decide ((j : Int) < (es.length : Int)) = false := by rw [decide_eq_false_iff_not]; omega
    simp (maxSteps := 2000000) (disch := omega) only [thenW_exit, W_skip, W_region, W_seq, W_cond, W_block, W_exit, seqQ_normal2, seqQ_exit2, WL_nil2, WL_cons, execL_val2, putL_some2, condW_f2, wantedA, exec1, evalO, T.get_set, ofOpt, neNil3, fb_lss, Nat.reduceLT, Nat.reduceEqDiff, if_true, if_false, true_and, Bool.false_eq_true, ez_P, rwLB, Tryd.f16, strS, T12, T13, T14, hlt]
    have hj : j = ts.length := by omega
    subst hj
    refine ⟨_, _, rfl, ?_⟩
    simp only [T.get_set, Nat.reduceEqDiff, if_false, T5, strS]
  | n + 1, j, t, S, hj, T1, T5, T12, T13, T14 => by
    refine WX_loop (W_sound ?_)
    have hel := dcls_len hd
    have hje : j < es.length := by omega
    have hlt : decide ((j : Int) < (es.length : Int)) = true := by rw [decide_eq_true_eq]; omega
    have hws := wrapS j (by omega)
    obtain ⟨fn1, hf1⟩ := fnz_25
    have hx := yxD tok off es j hje
    obtain ⟨nm, at_, fu, ck, of_, hdj⟩ := dcls_get hd j (by omega) hje
    rw [hdj] at hx
    simp only [cells_agg] at hx
    have hT : ts.getD j false = ts[j]'(by omega) := gd_in _ _ _ _
    rw [← hT] at hx
    have hvl := fun S => ints_len hw S
    have hll := line_len (ts := ts) hk j
    have hwl := word_len (vs.getD j 0) (ts.getD j false) (getD_ok hk j)
    have hok := getD_ok hk j
    have fin : ∀ (t' : T AV) (S' : St), t'.get 1 = some w → t'.get 5 = some (strS (lineTo ts vs (j + 1))) → t'.get 12 = some (.sl tok off 6 es) → t'.get 13 = some (.v (.int .i64 ((es.length : Nat) : Int))) → t'.get 14 = some (.v (.int .i64 ((j + 1 : Nat) : Int))) → WX EZ 39 (.loop rwLB) ⟨t', []⟩ S' (fun r => ∃ t' S', r = .out (.exit 0) ⟨t', []⟩ S' ∧ t'.get 5 = some (strS (lineTo ts vs ts.length))) := fun t' S' => rw_lp hd hts hw hk n (j + 1) t' S' (by omega)
    have hst : lineTo ts vs (j + 1) = (lineTo ts vs j ++ if j = 0 then [] else [32]) ++ wordF (vs.getD j 0) (ts.getD j false) := rfl
    generalize lineTo ts vs (j + 1) = nx at *
    generalize hword : wordF (vs.getD j 0) (ts.getD j false) = wd at *
    generalize hcur : lineTo ts vs j = cur at *
    generalize ts.getD j false = tj at *
    have rest : ∀ (v : Int), v = vs.getD j 0 → ∀ S'', WC EZ 25 [.v (.int .i64 v), .v (.bool tj)] S'' (fun r => r = .ret (strS wd) S'') := fun v hv S'' => by
      rw [hv, ← hword]; exact word_w _ _ hok S''
    by_cases hjv : j < vs.length
    · have h1 : decide ((j : Int) < (vs.length : Int)) = true := by rw [decide_eq_true_eq]; omega
      have hy := ints_idx hw j hjv
      generalize vs.getD j 0 = vj at *
      simp only [i64A] at hy
      by_cases h0 : j = 0
      · have hgt : decide ((j : Int) > 0) = false := by rw [decide_eq_false_iff_not]; omega
        rw [if_pos h0, List.append_nil] at hst
        have hc := fb_catS cur wd (by omega)
        simp (maxSteps := 2000000) (disch := omega) only [thenW_exit, W_skip, W_region, W_seq, W_cond, W_block, W_exit, seqQ_normal2, seqQ_exit2, WL_nil2, WL_cons, execL_val2, execL_skip2, execL_enter2, putL_none2, putL_some2, condW_t2, condW_f2, wantedA, exec1, evalO, T.get_set, callA, mapO, ofOpt, ofOptS, ofConst, neNil3, fb_lss, fb_gtr, neNil9, Nat.reduceLT, Nat.reduceAdd, Nat.reduceEqDiff, if_true, if_false, true_and, List.getElem?_cons_succ, List.getElem?_cons_zero, List.nil_append, List.append_nil, Bool.false_eq_true, to_get, nb_get, cl1_box, vstB_agg, List.length_cons, List.length_nil, Nat.zero_add, Nat.reduceLeDiff, List.drop_succ_cons, List.drop_nil, List.take_succ_cons, List.take_zero, and_self, ez_P, ez_G, rwLB, Tryd.f16, strS, yle2, yleE, ysE, yaE, yfE_2, yl4, neNil9, T1, T5, T12, T13, T14, hlt, hx, hvl, h1, hy, hgt, hf1]
        refine WC.mono (rest _ rfl _) ?_
        rintro _ rfl
        simp only [strS]
        simp (maxSteps := 2000000) (disch := omega) only [thenW_normal, W_region, seqQ_normal2, blockW_normal2, WL_nil2, WL_cons, execL_val2, putL_some2, retL_ret2, wantedA, exec1, evalO, T.get_set, ofOpt, ofConst, neNil3, fb_add, neNil9, Nat.reduceLT, Nat.reduceEqDiff, if_true, if_false, true_and, Bool.false_eq_true, ez_P, neNil9, T14, hc, hws]
        refine fin _ _ ?_ ?_ ?_ ?_ ?_
        · simp only [T.get_set, Nat.reduceEqDiff, if_false, T1]
        · simp only [T.get_set, Nat.reduceEqDiff, if_true, if_false, hst, strS] <;> rfl
        · simp only [T.get_set, Nat.reduceEqDiff, if_false, T12]
        · simp only [T.get_set, Nat.reduceEqDiff, if_false, T13]
        · simp only [T.get_set, Nat.reduceEqDiff, if_true, if_false]
      · have hgt : decide ((j : Int) > 0) = true := by rw [decide_eq_true_eq]; omega
        rw [if_neg h0] at hst
        have hs := fb_catS cur [32] (by show _ + 1 ≤ _; omega)
        have hc := fb_catS (cur ++ [32]) wd (by rw [List.length_append]; show _ + 1 + _ ≤ _; omega)
        simp (maxSteps := 2000000) (disch := omega) only [thenW_exit, W_skip, W_region, W_seq, W_cond, W_block, W_exit, seqQ_normal2, seqQ_exit2, WL_nil2, WL_cons, execL_val2, execL_skip2, execL_enter2, putL_none2, putL_some2, condW_t2, wantedA, exec1, evalO, T.get_set, callA, mapO, ofOpt, ofOptS, ofConst, neNil3, fb_lss, fb_gtr, neNil9, Nat.reduceLT, Nat.reduceAdd, Nat.reduceEqDiff, if_true, if_false, true_and, List.getElem?_cons_succ, List.getElem?_cons_zero, List.nil_append, List.append_nil, Bool.false_eq_true, to_get, nb_get, cl1_box, vstB_agg, List.length_cons, List.length_nil, Nat.zero_add, Nat.reduceLeDiff, List.drop_succ_cons, List.drop_nil, List.take_succ_cons, List.take_zero, and_self, ez_P, rwLB, Tryd.f16, strS, yle2, yleE, ysE, yaE, yfE_2, yl4, neNil9, T1, T5, T12, T13, T14, hlt, hx, hvl, h1, hy, hgt, hs, hf1]
        refine WC.mono (rest _ rfl _) ?_
        rintro _ rfl
        simp only [strS]
        simp (maxSteps := 2000000) (disch := omega) only [thenW_normal, W_region, seqQ_normal2, blockW_normal2, WL_nil2, WL_cons, execL_val2, putL_some2, retL_ret2, wantedA, exec1, evalO, T.get_set, ofOpt, ofConst, neNil3, fb_add, neNil9, Nat.reduceLT, Nat.reduceEqDiff, if_true, if_false, true_and, List.nil_append, Bool.false_eq_true, List.cons_append, List.append_assoc, ez_P, neNil9, T14, hc, hws]
        refine fin _ _ ?_ ?_ ?_ ?_ ?_
        · simp only [T.get_set, Nat.reduceEqDiff, if_false, T1]
        · simp only [T.get_set, Nat.reduceEqDiff, if_true, if_false, hst, strS, List.append_assoc] <;> rfl
        · simp only [T.get_set, Nat.reduceEqDiff, if_false, T12]
        · simp only [T.get_set, Nat.reduceEqDiff, if_false, T13]
        · simp only [T.get_set, Nat.reduceEqDiff, if_true, if_false]
    · have h1 : decide ((j : Int) < (vs.length : Int)) = false := by rw [decide_eq_false_iff_not]; omega
      have hz : vs.getD j 0 = 0 := gd_out _ _ _ (by omega)
      generalize vs.getD j 0 = vj at *
      by_cases h0 : j = 0
      · have hgt : decide ((j : Int) > 0) = false := by rw [decide_eq_false_iff_not]; omega
        rw [if_pos h0, List.append_nil] at hst
        have hc := fb_catS cur wd (by omega)
        simp (maxSteps := 2000000) (disch := omega) only [thenW_exit, W_skip, W_region, W_seq, W_cond, W_block, W_exit, seqQ_normal2, seqQ_exit2, WL_nil2, WL_cons, execL_val2, execL_skip2, execL_enter2, putL_none2, putL_some2, condW_t2, condW_f2, wantedA, exec1, evalO, T.get_set, callA, mapO, ofOpt, ofOptS, ofConst, neNil3, fb_lss, fb_gtr, neNil9, Nat.reduceLT, Nat.reduceAdd, Nat.reduceEqDiff, if_true, if_false, true_and, List.getElem?_cons_succ, List.getElem?_cons_zero, List.nil_append, List.append_nil, Bool.false_eq_true, to_get, nb_get, cl1_box, vstB_agg, List.length_cons, List.length_nil, Nat.zero_add, Nat.reduceLeDiff, List.drop_succ_cons, List.drop_nil, List.take_succ_cons, List.take_zero, and_self, ez_P, ez_G, rwLB, Tryd.f16, strS, yleE, ysE, yaE, yfE_2, yl4, neNil9, T1, T5, T12, T13, T14, hlt, hx, hvl, h1, hgt, hf1]
        refine WC.mono (rest _ hz.symm _) ?_
        rintro _ rfl
        simp only [strS]
        simp (maxSteps := 2000000) (disch := omega) only [thenW_normal, W_region, seqQ_normal2, blockW_normal2, WL_nil2, WL_cons, execL_val2, putL_some2, retL_ret2, wantedA, exec1, evalO, T.get_set, ofOpt, ofConst, neNil3, fb_add, neNil9, Nat.reduceLT, Nat.reduceEqDiff, if_true, if_false, true_and, Bool.false_eq_true, ez_P, neNil9, T14, hc, hws]
        refine fin _ _ ?_ ?_ ?_ ?_ ?_
        · simp only [T.get_set, Nat.reduceEqDiff, if_false, T1]
        · simp only [T.get_set, Nat.reduceEqDiff, if_true, if_false, hst, strS] <;> rfl
        · simp only [T.get_set, Nat.reduceEqDiff, if_false, T12]
        · simp only [T.get_set, Nat.reduceEqDiff, if_false, T13]
        · simp only [T.get_set, Nat.reduceEqDiff, if_true, if_false]
      · have hgt : decide ((j : Int) > 0) = true := by rw [decide_eq_true_eq]; omega
        rw [if_neg h0] at hst
        have hs := fb_catS cur [32] (by show _ + 1 ≤ _; omega)
        have hc := fb_catS (cur ++ [32]) wd (by rw [List.length_append]; show _ + 1 + _ ≤ _; omega)
        simp (maxSteps := 2000000) (disch := omega) only [thenW_exit, W_skip, W_region, W_seq, W_cond, W_block, W_exit, seqQ_normal2, seqQ_exit2, WL_nil2, WL_cons, execL_val2, execL_skip2, execL_enter2, putL_none2, putL_some2, condW_t2, condW_f2, wantedA, exec1, evalO, T.get_set, callA, mapO, ofOpt, ofOptS, ofConst, neNil3, fb_lss, fb_gtr, neNil9, Nat.reduceLT, Nat.reduceAdd, Nat.reduceEqDiff, if_true, if_false, true_and, List.getElem?_cons_succ, List.getElem?_cons_zero, List.nil_append, List.append_nil, Bool.false_eq_true, to_get, nb_get, cl1_box, vstB_agg, List.length_cons, List.length_nil, Nat.zero_add, Nat.reduceLeDiff, List.drop_succ_cons, List.drop_nil, List.take_succ_cons, List.take_zero, and_self, ez_P, rwLB, Tryd.f16, strS, yleE, ysE, yaE, yfE_2, yl4, neNil9, T1, T5, T12, T13, T14, hlt, hx, hvl, h1, hgt, hs, hf1]
        refine WC.mono (rest _ hz.symm _) ?_
        rintro _ rfl
        simp only [strS]
        simp (maxSteps := 2000000) (disch := omega) only [thenW_normal, W_region, seqQ_normal2, blockW_normal2, WL_nil2, WL_cons, execL_val2, putL_some2, retL_ret2, wantedA, exec1, evalO, T.get_set, ofOpt, ofConst, neNil3, fb_add, neNil9, Nat.reduceLT, Nat.reduceEqDiff, if_true, if_false, true_and, List.nil_append, Bool.false_eq_true, List.cons_append, List.append_assoc, ez_P, neNil9, T14, hc, hws]
        refine fin _ _ ?_ ?_ ?_ ?_ ?_
        · simp only [T.get_set, Nat.reduceEqDiff, if_false, T1]
        · simp only [T.get_set, Nat.reduceEqDiff, if_true, if_false, hst, strS, List.append_assoc] <;> rfl
        · simp only [T.get_set, Nat.reduceEqDiff, if_false, T12]
        · simp only [T.get_set, Nat.reduceEqDiff, if_false, T13]
        · simp only [T.get_set, Nat.reduceEqDiff, if_true, if_false]
end Go.Ax
noncomputable section
namespace Go.Ax
open Go.RowKit Go.Proofs
set_option linter.unusedVariables false
set_option linter.unusedSimpArgs false
set_option maxRecDepth 100000
theorem i64_map_inj : ∀ {x y : List Int}, x.map i64A = y.map i64A → x = y
  | [], [], _ => rfl
  | [], _ :: _, h => by cases h
  | _ :: _, [], h => by cases h
  | a :: x, c :: y, h => by
    simp only [List.map_cons, List.cons.injEq] at h
    have h1 : a = c := by have := h.1; unfold i64A at this; simpa using this
    rw [h1, i64_map_inj h.2]
theorem isInts_inj {w : AV} {vs vs' : List Int} (h : isInts w vs) (h' : isInts w vs') : vs' = vs := by
  rcases h with ⟨rfl, rfl⟩ | ⟨tok, off, rfl⟩ | ⟨a, rfl, rfl⟩
  · rcases h' with ⟨_, rfl⟩ | ⟨_, _, h⟩ | ⟨_, h, _⟩
    · rfl
    · cases h
    · cases h
  · rcases h' with ⟨h, _⟩ | ⟨_, _, h⟩ | ⟨_, h, _⟩
    · cases h
    · injection h with _ _ _ h
      exact (i64_map_inj h).symm
    · cases h
  · rcases h' with ⟨h, _⟩ | ⟨_, _, h⟩ | ⟨_, _, rfl⟩
    · cases h
    · cases h
    · rfl
theorem line_fin {v w : AV} {ts : List Bool} {vs : List Int} (hv : isDcls v ts) (hw : isInts w vs) {l : List UInt8} (he : l = lineF ts vs) (S' : St) : ∃ a' S'', R.ret (strS l) S' = R.ret a' S'' ∧ freeV a' = true ∧ SpecZ 16 [v, w] (clean a') := by
  refine ⟨_, _, rfl, rfl, ?_⟩
  intro v' ts' w' vs' hq hd hi _ _
  injection hq with h3 h4
  injection h4 with h4 _
  subst h3; subst h4
  have h1 := isDcls_inj hv hd
  have h2 := isInts_inj hw hi
  subst h1; subst h2
  rw [he]; rfl
theorem line_k (v w : AV) (ts : List Bool) (vs : List Int) (hv : isDcls v ts) (hw : isInts w vs) (hk : okInts vs) (hts : ts.length ≤ 1000) : KnZ 16 [v, w] := by
  refine bodyZ Tryd.f16 (by kernel_rfl) (by kernel_rfl) (show (_ : Nat) ≤ _ from by show (_ : Nat) ≤ _; simp [Tryd.f16]) ?_
  by_cases ht : ts = []
  · subst ht
    have hz : (((0 : Nat) : Int) == 0) = true := rfl
    have key : ∀ S, oLen Tryd.prog S 25 v = some 0 := by
      intro S
      rcases hv with ⟨rfl, _⟩ | ⟨tok, off, es, rfl, hd⟩
      · exact ynnD S
      · rw [ynD]; have := dcls_len hd; rw [this]; rfl
    simp (maxSteps := 2000000) (disch := omega) only [W_skip, W_region, W_seq, W_cond, W_block, W_loop, W_ret, seqQ_normal2, seqQ_ret2, WL_nil2, WL_cons, execL_val2, putL_some2, condW_t2, wantedA, exec1, evalO, initT, T.get_set, T.get_leaf, callA, ofOpt, ofConst, neNil3, finW_ret, giveW, resultsA, tupA, fb_eqlI, Nat.reduceLT, Nat.reduceEqDiff, if_true, if_false, true_and, Option.getD_some, Bool.false_eq_true, Nat.zero_add, ez_P, Tryd.f16, initT, key, hz]
    exact line_fin hv hw (by unfold lineF; rw [if_pos rfl]) _
  · rcases hv with ⟨_, h⟩ | ⟨tok, off, es, rfl, hd⟩
    · exact absurd h ht
    have hv : isDcls (.sl tok off 6 es) ts := .inr ⟨tok, off, es, rfl, hd⟩
    have hel := dcls_len hd
    have hpos : 0 < ts.length := by cases ts with | nil => exact absurd rfl ht | cons _ _ => simp
    have hz : (((es.length : Nat) : Int) == 0) = false := by rw [beq_eq_false_iff_ne]; omega
    have lp := fun t S => rw_lp (tok := tok) (off := off) hd hts hw hk ts.length 0 t S (by omega)
    unfold rwLB at lp
    simp only [Tryd.f16] at lp
    simp (maxSteps := 2000000) (disch := omega) only [W_skip, W_region, W_seq, W_cond, W_block, W_loop, W_ret, seqQ_normal2, seqQ_ret2, WL_nil2, WL_cons, execL_val2, putL_some2, condW_f2, wantedA, exec1, evalO, initT, T.get_set, T.get_leaf, callA, ofOpt, ofConst, neNil3, finW_ret, giveW, resultsA, tupA, fb_eqlI, Nat.reduceLT, Nat.reduceEqDiff, if_true, if_false, true_and, Option.getD_some, Bool.false_eq_true, Nat.zero_add, ez_P, Tryd.f16, ynD, initT, hz]
    refine WX.mono (lp _ _ ?_ ?_ ?_ ?_ ?_) ?_
    · simp only [T.get_set, T.get_leaf, Nat.reduceEqDiff, if_true, if_false] <;> rfl
    · simp only [T.get_set, T.get_leaf, Nat.reduceEqDiff, if_true, if_false] <;> rfl
    · simp only [T.get_set, T.get_leaf, Nat.reduceEqDiff, if_true, if_false] <;> rfl
    · simp only [T.get_set, T.get_leaf, Nat.reduceEqDiff, if_true, if_false] <;> rfl
    · simp only [T.get_set, T.get_leaf, Nat.reduceEqDiff, if_true, if_false] <;> rfl
    rintro r' ⟨t', S', rfl, r5⟩
    unfold strS at r5
    simp (maxSteps := 2000000) (disch := omega) only [W_region, W_seq, W_ret, seqQ_normal2, seqQ_exit2, blockW_exit2, WL_nil2, WL_cons, execL_val2, putL_some2, wantedA, exec1, evalO, T.get_set, ofOpt, finW_ret, giveW, resultsA, tupA, Nat.reduceLT, Nat.reduceEqDiff, if_true, if_false, true_and, r5]
    exact line_fin hv hw (by unfold lineF; rw [if_neg ht]) _
theorem use_line {S : St} {Q : R → Prop} {v w : AV} {ts : List Bool} {vs : List Int} (hv : isDcls v ts) (hw : isInts w vs) (hk : okInts vs) (hf : freeV v = true) (hc : clean v = v) (hfw : freeV w = true) (hcw : clean w = w) (hts : ts.length ≤ 1000) (h : Q (.ret (strS (lineF ts vs)) S)) : WC EZ 16 [v, w] S Q :=
  callZ (line_k v w ts vs hv hw hk hts) (by kernel_rfl) (by show (freeV v && (freeV w && true)) = true; rw [hf, hfw]; rfl) (by show [clean v, clean w] = _; rw [hc, hcw]) fun a _ _ hs => by
    have := hs v ts w vs rfl hv hw hk hts
    subst this
    exact h
end Go.Ax
