/-
  QueuePlays: whatever comes in, it answers true.
-/
import Derived.Test.YtoocolbgoaaeaaaQEe
noncomputable section
namespace Go.Ax
open Go.RowKit Go.Proofs
set_option linter.unusedVariables false
set_option linter.unusedSimpArgs false
set_option maxRecDepth 100000

theorem neNil4 (a b : AV) : neNil Try.prog 4 a b = false := by
  have h : Try.prog.underlying 4 = some .bool := by kernel_rfl
  unfold neNil; rw [h]
theorem fb_bool (op : BinOp) (a b : Bool) : fastBin op (.v (.bool a)) (.v (.bool b)) = none := rfl
def neqBO (r : OR) (S : St) (x y : Option AV) : OR := match x, y with
  | some (.v (.bool a)), some (.v (.bool b)) => .val (.v (.bool (a != b))) S
  | _, _ => r
theorem neqBO_bb (r : OR) (S : St) (a b : Bool) : neqBO r S (some (.v (.bool a))) (some (.v (.bool b))) = .val (.v (.bool (a != b))) S := rfl
def eqOrX (P : Program) (G : Gl) (f : T AV) (S : St) (o : Oper) (op : BinOp) (t : TypeId) (a b : AV) : OR := eqOr P G f S o op t a b
theorem fastEqB (a b : Bool) : fastEq Try.prog .neq 4 (.v (.bool a)) (.v (.bool b)) = none := by cases a <;> cases b <;> kernel_rfl
theorem eqOr_neqB (f : T AV) (S : St) (dst : Option Tmp) (k l : Tmp) (ty : TypeId) (pos : String) (af : Array Edge) (gd : Option (Nat × Bool)) (a b : Bool) :
    eqOr Try.prog (fun _ => none) f S { dst := dst, op := .binOp .neq 4 (.tmp k) (.tmp l) 4, type := ty, pos := pos, after := af, guard := gd } .neq 4 (.v (.bool a)) (.v (.bool b)) = neqBO (eqOrX Try.prog (fun _ => none) f S { dst := dst, op := .binOp .neq 4 (.tmp k) (.tmp l) 4, type := ty, pos := pos, after := af, guard := gd } .neq 4 (.v (.bool a)) (.v (.bool b))) S (f.get k) (f.get l) := by
  unfold neqBO
  split
  · rename_i x y h1 h2
    have hg1 : groundO (fun _ => none) f (.tmp k) = some (.bool x) := by unfold groundO; simp only [evalO, h1]; rfl
    have hg2 : groundO (fun _ => none) f (.tmp l) = some (.bool y) := by unfold groundO; simp only [evalO, h2]; rfl
    unfold eqOr
    rw [fastEqB]
    simp only
    unfold ground
    have hall : ((Op.binOp .neq 4 (.tmp k) (.tmp l) 4 : Op).operands.toList.all fun x => (groundO (fun _ => none) f x).isSome) = true := by
      show ([Operand.tmp k, Operand.tmp l].all fun x => (groundO (fun _ => none) f x).isSome) = true
      simp only [List.all_cons, List.all_nil, hg1, hg2, Option.isSome_some, Bool.and_self]
    refine (if_pos hall).trans ?_
    have e : execOp (fun x => (groundO (fun _ => none) f x).getD undef) { dst := dst, op := .binOp .neq 4 (.tmp k) (.tmp l) 4, type := ty, pos := pos, after := af, guard := gd } = execOp (maxG2 (.bool x) (.bool y)) { dst := none, op := .binOp .neq 4 (.tmp 0) (.tmp 1) 4, type := 4, pos := "", after := #[], guard := none } := by
      simp only [execOp, hg1, hg2, Option.getD_some]
      rfl
    rw [e]
    cases x <;> cases y <;> rfl
  · rfl
def boolB (b : Bool) : AV := .v (.bool b)
def rowBl (v : AV) (B : List Bool) : Prop := (v = .nils ∧ B = []) ∨ ∃ tok off, v = .sl tok off 1 (B.map boolB)
theorem u23 : Try.prog.underlying 23 = some (.slice 4) := by kernel_rfl
theorem e23 : elemT Try.prog 23 = some (none, 4) := by kernel_rfl
theorem s4 : sizeT Try.prog 4 = some 1 := by kernel_rfl
theorem len23 (S : St) {v : AV} {B : List Bool} (h : rowBl v B) : oLen Try.prog S 23 v = some B.length := by
  rcases h with ⟨rfl, rfl⟩ | ⟨tok, off, rfl⟩ <;> simp [oLen, u23]
theorem idx23 {v : AV} {B : List Bool} (h : rowBl v B) (i : Nat) (hi : i < B.length) : oIndexAddr Try.prog 23 v (.v (.int .i64 (i : Int))) = some (.ep [.v (.bool B[i])]) := by
  rcases h with ⟨rfl, rfl⟩ | ⟨tok, off, rfl⟩
  · simp at hi
  · simp [oIndexAddr, e23, s4, hi, boolB, AV.cells]
theorem ld4ep (S : St) (a : AV) : oLoad Try.prog S 4 (.ep [a]) = some a := by
  have : isAggT Try.prog 4 = some false := by kernel_rfl
  simp [oLoad, behind, this]
theorem QAt.put {S : St} {q r room first most : Nat} {cs : List AV} {L : List Int} (h : QAt S q r room first most cs L) {p : Nat} (h1 : p ≠ q) (h2 : p ≠ r) (ds : List AV) : QAt (S.put p ds) q r room first most cs L :=
  ⟨h.ne, by rw [get_put, if_neg h1.symm]; exact h.hq, by rw [get_put, if_neg h2.symm]; exact h.hr, h.len, h.fst, h.fits, h.small, h.mst, h.q2, h.r2, h.at_⟩
/-- The state of the play: the queue, and the document's, hold the same. -/
structure Play (S : St) (q r p room most : Nat) (L : List Int) : Prop where
  two : 2 ≤ S.next
  pq : p ≠ q
  pr : p ≠ r
  pn : p < S.next
  queue : ∃ first cs, QAt S q r room first most cs L
  ref : ∃ l, rowIs l L ∧ S.mem.get p = some (.box (RefQ l room most))
/-- What the document's calls answered is laid into a new box, and from there into x. -/
theorem relay {S : St} {q r p room : Nat} {old : List AV} (h2 : 2 ≤ S.next) (hpq : p ≠ q) (hpr : p ≠ r) (hpn : p < S.next) {first m0 : Nat} {cs : List AV} {M : List Int} (hQ : QAt S q r room first m0 cs M) (hp : S.mem.get p = some (.box old)) (ho : old.length = 3) (l' : AV) (m : Nat) :
    ∃ S2 S3 S4, S.newBox [.nils, .v (.int .i64 0), .v (.int .i64 0)] = S2 ∧ oStore Try.prog S2 28 (.ptr S.next 0) (.agg (RefQ l' room m)) = some S3 ∧ oLoad Try.prog S3 28 (.ptr S.next 0) = some (.agg (RefQ l' room m)) ∧
      oStore Try.prog S3 28 (.ptr p 0) (.agg (RefQ l' room m)) = some S4 ∧ QAt S4 q r room first m0 cs M ∧ S4.mem.get p = some (.box (RefQ l' room m)) ∧ 2 ≤ S4.next ∧ p < S4.next := by
  obtain ⟨a, b, c, rfl⟩ : ∃ a b c, old = [a, b, c] := by
    match old, ho with
    | [a, b, c], _ => exact ⟨a, b, c, rfl⟩
  have g2 : (S.newBox [.nils, .v (.int .i64 0), .v (.int .i64 0)]).mem.get S.next = some (.box [.nils, .v (.int .i64 0), .v (.int .i64 0)]) := by rw [get_newBox, if_pos rfl]
  have st := st28 _ S.next l' (.v (.int .i64 room)) (.v (.int .i64 (m : Int))) _ _ _ g2
  have g3 : ((S.newBox [.nils, .v (.int .i64 0), .v (.int .i64 0)]).put S.next [l', .v (.int .i64 room), .v (.int .i64 (m : Int))]).mem.get S.next = some (.box [l', .v (.int .i64 room), .v (.int .i64 (m : Int))]) := by rw [get_put, if_pos rfl]
  have p3 : ((S.newBox [.nils, .v (.int .i64 0), .v (.int .i64 0)]).put S.next [l', .v (.int .i64 room), .v (.int .i64 (m : Int))]).mem.get p = some (.box [a, b, c]) := by
    rw [get_put, if_neg (by omega), get_newBox, if_neg (by omega)]; exact hp
  refine ⟨_, _, _, rfl, st, ld28 _ _ _ _ _ g3, st28 _ p l' (.v (.int .i64 room)) (.v (.int .i64 (m : Int))) _ _ _ p3, ?_, ?_, ?_, ?_⟩
  · exact ((hQ.keep (keepB_new _ _)).put (p := S.next) (by have := hQ.q2; omega) (by have := hQ.r2; omega) _).put hpq hpr _
  · rw [get_put, if_pos rfl]; rfl
  · show 2 ≤ S.next + 1; omega
  · show p < S.next + 1; omega
/-- The same, part by part: into the new box .. -/
theorem relayA {S : St} {q r p room : Nat} {old : List AV} (h2 : 2 ≤ S.next) (hpn : p < S.next) {first m0 : Nat} {cs : List AV} {M : List Int} (hQ : QAt S q r room first m0 cs M) (hp : S.mem.get p = some (.box old)) (l' : AV) (m : Nat) :
    ∃ S2 S3, S.newBox [.nils, .v (.int .i64 0), .v (.int .i64 0)] = S2 ∧ oStore Try.prog S2 28 (.ptr S.next 0) (.agg (RefQ l' room m)) = some S3 ∧ QAt S3 q r room first m0 cs M ∧
      S3.mem.get S.next = some (.box (RefQ l' room m)) ∧ S3.mem.get p = some (.box old) ∧ S3.next = S.next + 1 := by
  have g2 : (S.newBox [.nils, .v (.int .i64 0), .v (.int .i64 0)]).mem.get S.next = some (.box [.nils, .v (.int .i64 0), .v (.int .i64 0)]) := by rw [get_newBox, if_pos rfl]
  refine ⟨_, _, rfl, st28 _ S.next l' (.v (.int .i64 room)) (.v (.int .i64 (m : Int))) _ _ _ g2, (hQ.keep (keepB_new _ _)).put (p := S.next) (by have := hQ.q2; omega) (by have := hQ.r2; omega) _, ?_, ?_, rfl⟩
  · rw [get_put, if_pos rfl]; rfl
  · rw [get_put, if_neg (by omega), get_newBox, if_neg (by omega)]; exact hp
/-- .. and on. -/
theorem relayB {S : St} {q r p b room : Nat} {old : List AV} (hpq : p ≠ q) (hpr : p ≠ r) {first m0 : Nat} {cs : List AV} {M : List Int} (hQ : QAt S q r room first m0 cs M) (hp : S.mem.get p = some (.box old)) (ho : old.length = 3) (l' : AV) (m : Nat) (hb : S.mem.get b = some (.box (RefQ l' room m))) :
    oLoad Try.prog S 28 (.ptr b 0) = some (.agg (RefQ l' room m)) ∧ ∃ S4, oStore Try.prog S 28 (.ptr p 0) (.agg (RefQ l' room m)) = some S4 ∧ QAt S4 q r room first m0 cs M ∧ S4.mem.get p = some (.box (RefQ l' room m)) ∧ S4.next = S.next := by
  obtain ⟨x, y, z, rfl⟩ : ∃ a b c, old = [a, b, c] := by
    match old, ho with
    | [a, b, c], _ => exact ⟨a, b, c, rfl⟩
  refine ⟨ld28 _ _ _ _ _ hb, _, st28 _ p l' (.v (.int .i64 room)) (.v (.int .i64 (m : Int))) _ _ _ hp, hQ.put hpq hpr _, ?_, rfl⟩
  rw [get_put, if_pos rfl]; rfl
noncomputable def plBody : Code := match Try.f3.body with
  | some (.seq _ (.seq _ (.seq _ (.seq _ (.seq _ (.seq (.seq _ (.block _ (.loop b))) _)))))) => b
  | _ => .skip
theorem plBody_is : (match plBody with | .skip => false | _ => true) = true := by kernel_rfl
/-- What is looked at behind each call. -/
noncomputable def plLook : Code := match plBody with
  | .seq _ (.seq _ (.seq (.block _ (.seq _ b)) _)) => b
  | .seq _ (.seq (.block _ (.seq _ b)) _) => b
  | _ => .skip
theorem plLook_is : (match plLook with | .skip => false | _ => true) = true := by kernel_rfl
set_option maxHeartbeats 16000000 in
theorem look_ok (q r p room most : Nat) (L : List Int) (S : St) (hP : Play S q r p room most L) (t : T AV) (h9 : t.get 9 = some (.ptr q 0)) (h10 : t.get 10 = some (.ptr p 0)) (Q : O → Prop)
    (hq : ∀ t' S', Play S' q r p room most L → (∀ k, k < 84 → t'.get k = t.get k) → Q (.out .normal ⟨t', []⟩ S')) : W E1 124 plLook ⟨t, []⟩ S Q := by
  obtain ⟨fn12, hf12⟩ := fnOk12
  obtain ⟨fn13, hf13⟩ := fnOk13
  obtain ⟨fn14, hf14⟩ := fnOk14
  obtain ⟨fn15, hf15⟩ := fnOk15
  obtain ⟨fn16, hf16⟩ := fnOk16
  obtain ⟨first, cs, hQ⟩ := hP.queue
  obtain ⟨l, hl, hp⟩ := hP.ref
  have hfit := hQ.fits
  have hsm := hQ.small
  have hb := beqA_row hl
  unfold RefQ at hp
  simp only [thenW_normal, thenW_exit, thenW_ret, thenW_pan, W_skip, W_region, W_drawn, W_seq, W_cond, W_block, W_loop, W_exit, W_ret, seqQ_normal2, seqQ_exit2, seqQ_ret2, seqQ_pan2, blockW_normal2, blockW_ret2, blockW_pan2, blockW_exit2, WL_nil2, WL_cons, execL_no, execL_val2, execL_skip2, execL_enter2, execL_pan2, putL_none2, putL_some2, retL_ret2, retL_pan2, condW_t2, condW_f2, WR_nil2, WR_op, WR_re2, execR_no, execR_val2, execR_skip2, execR_enter2, putRW_none2, putRW_some2, retRW_ret2, fixQ_normal2, wantedA, exec1, evalO, initT, T.get_set, T.get_leaf, callA, mapO, ofOpt, ofOptS, ofConst, e1_P, e1_G, partsA, neNil3, neNil2, finW_ret, finW_pan, giveW, resultsA, tupA, fb_lss, fb_leq, fb_gtr, fb_geq, fb_add, fb_sub, fb_eqlI, fb_neqI, Nat.reduceLT, Nat.reduceAdd, Nat.reduceEqDiff, if_true, if_false, reduceIte, true_and, and_true, Option.getD_some, List.getElem?_toArray, List.getElem?_cons_succ, List.getElem?_cons_zero, Option.bind_some, List.nil_append, List.append_nil, beq_self_eq_true, Bool.false_eq_true, Bool.true_eq_false, decide_true, decide_false, Bool.not_true, Bool.not_false, Bool.false_beq, Bool.true_beq, Option.toList, List.head?_cons, List.head?_nil, app22, ld3, ld2, ld22, fa43_0, fa43_1, fa43_2, fa43_3, fa28_0, fa28_1, fa28_2, cellO_box, oExtract, get_put, put_next, get_newBox, newBox_next, lit22_1, lit22_0, AV.noTup, plLook, plBody, Try.f3]
  refine WD_by [(0, true), (2, true), (3, true), (1, true), (3, false), (4, true), (5, true), (6, true), (7, true), (9, true), (10, true), (11, true), (8, true), (11, false), (10, false), (12, true), (13, true), (14, true), (15, true), (17, true), (18, true), (16, true), (18, false), (19, true), (20, true), (21, true), (22, true), (24, true), (25, true), (23, true), (25, false), (26, true), (27, true)] (by kernel_rfl) (by kernel_rfl) ?_
  simp only [thenW_normal, thenW_exit, thenW_ret, thenW_pan, W_skip, W_region, W_drawn, W_seq, W_cond, W_block, W_loop, W_exit, W_ret, seqQ_normal2, seqQ_exit2, seqQ_ret2, seqQ_pan2, blockW_normal2, blockW_ret2, blockW_pan2, blockW_exit2, WL_nil2, WL_cons, execL_no, execL_val2, execL_skip2, execL_enter2, execL_pan2, putL_none2, putL_some2, retL_ret2, retL_pan2, condW_t2, condW_f2, WR_nil2, WR_op, WR_re2, execR_no, execR_val2, execR_skip2, execR_enter2, putRW_none2, putRW_some2, retRW_ret2, fixQ_normal2, wantedA, exec1, evalO, initT, T.get_set, T.get_leaf, callA, mapO, ofOpt, ofOptS, ofConst, e1_P, e1_G, partsA, neNil3, neNil2, finW_ret, finW_pan, giveW, resultsA, tupA, fb_lss, fb_leq, fb_gtr, fb_geq, fb_add, fb_sub, fb_eqlI, fb_neqI, Nat.reduceLT, Nat.reduceAdd, Nat.reduceEqDiff, if_true, if_false, reduceIte, true_and, and_true, Option.getD_some, List.getElem?_toArray, List.getElem?_cons_succ, List.getElem?_cons_zero, Option.bind_some, List.nil_append, List.append_nil, beq_self_eq_true, Bool.false_eq_true, Bool.true_eq_false, decide_true, decide_false, Bool.not_true, Bool.not_false, Bool.false_beq, Bool.true_beq, Option.toList, List.head?_cons, List.head?_nil, app22, ld3, ld2, ld22, fa43_0, fa43_1, fa43_2, fa43_3, fa28_0, fa28_1, fa28_2, cellO_box, oExtract, get_put, put_next, get_newBox, newBox_next, lit22_1, lit22_0, AV.noTup, rsOf, againO, lookV, beqA_int, beqA_ptr, beqA_bs, h9, h10, hp, hf13]
  refine WC.mono (list_w S hP.two q r room first most cs L hQ) ?_
  rintro _ ⟨v, S1, rfl, hv, k1⟩
  have hp1 := k1.2 _ _ hP.pn hp
  have hQ1 := hQ.keep k1
  simp only [thenW_normal, thenW_exit, thenW_ret, thenW_pan, W_skip, W_region, W_drawn, W_seq, W_cond, W_block, W_loop, W_exit, W_ret, seqQ_normal2, seqQ_exit2, seqQ_ret2, seqQ_pan2, blockW_normal2, blockW_ret2, blockW_pan2, blockW_exit2, WL_nil2, WL_cons, execL_no, execL_val2, execL_skip2, execL_enter2, execL_pan2, putL_none2, putL_some2, retL_ret2, retL_pan2, condW_t2, condW_f2, WR_nil2, WR_op, WR_re2, execR_no, execR_val2, execR_skip2, execR_enter2, putRW_none2, putRW_some2, retRW_ret2, fixQ_normal2, wantedA, exec1, evalO, initT, T.get_set, T.get_leaf, callA, mapO, ofOpt, ofOptS, ofConst, e1_P, e1_G, partsA, neNil3, neNil2, finW_ret, finW_pan, giveW, resultsA, tupA, fb_lss, fb_leq, fb_gtr, fb_geq, fb_add, fb_sub, fb_eqlI, fb_neqI, Nat.reduceLT, Nat.reduceAdd, Nat.reduceEqDiff, if_true, if_false, reduceIte, true_and, and_true, Option.getD_some, List.getElem?_toArray, List.getElem?_cons_succ, List.getElem?_cons_zero, Option.bind_some, List.nil_append, List.append_nil, beq_self_eq_true, Bool.false_eq_true, Bool.true_eq_false, decide_true, decide_false, Bool.not_true, Bool.not_false, Bool.false_beq, Bool.true_beq, Option.toList, List.head?_cons, List.head?_nil, app22, ld3, ld2, ld22, fa43_0, fa43_1, fa43_2, fa43_3, fa28_0, fa28_1, fa28_2, cellO_box, oExtract, get_put, put_next, get_newBox, newBox_next, lit22_1, lit22_0, AV.noTup, rsOf, againO, lookV, beqA_int, beqA_ptr, beqA_bs, h9, h10, hp1, hb, hf12]
  refine WC.mono (same_w S1 hv hl (by omega)) ?_
  rintro _ rfl
  have e0 : ((0 : Int) != 0) = false := rfl
  have hlen := fun S => len22 S hl
  simp only [thenW_normal, thenW_exit, thenW_ret, thenW_pan, W_skip, W_region, W_drawn, W_seq, W_cond, W_block, W_loop, W_exit, W_ret, seqQ_normal2, seqQ_exit2, seqQ_ret2, seqQ_pan2, blockW_normal2, blockW_ret2, blockW_pan2, blockW_exit2, WL_nil2, WL_cons, execL_no, execL_val2, execL_skip2, execL_enter2, execL_pan2, putL_none2, putL_some2, retL_ret2, retL_pan2, condW_t2, condW_f2, WR_nil2, WR_op, WR_re2, execR_no, execR_val2, execR_skip2, execR_enter2, putRW_none2, putRW_some2, retRW_ret2, fixQ_normal2, wantedA, exec1, evalO, initT, T.get_set, T.get_leaf, callA, mapO, ofOpt, ofOptS, ofConst, e1_P, e1_G, partsA, neNil3, neNil2, finW_ret, finW_pan, giveW, resultsA, tupA, fb_lss, fb_leq, fb_gtr, fb_geq, fb_add, fb_sub, fb_eqlI, fb_neqI, Nat.reduceLT, Nat.reduceAdd, Nat.reduceEqDiff, if_true, if_false, reduceIte, true_and, and_true, Option.getD_some, List.getElem?_toArray, List.getElem?_cons_succ, List.getElem?_cons_zero, Option.bind_some, List.nil_append, List.append_nil, beq_self_eq_true, Bool.false_eq_true, Bool.true_eq_false, decide_true, decide_false, Bool.not_true, Bool.not_false, Bool.false_beq, Bool.true_beq, Option.toList, List.head?_cons, List.head?_nil, app22, ld3, ld2, ld22, fa43_0, fa43_1, fa43_2, fa43_3, fa28_0, fa28_1, fa28_2, cellO_box, oExtract, get_put, put_next, get_newBox, newBox_next, lit22_1, lit22_0, AV.noTup, rsOf, againO, lookV, beqA_int, beqA_ptr, beqA_bs, h9, h10, hp1, e0, hlen, hf14]
  refine WC.mono (len_w S1 q r room first _ most hQ1.hq) ?_
  rintro _ rfl
  have e1 := neq_self (L.length : Int)
  simp only [thenW_normal, thenW_exit, thenW_ret, thenW_pan, W_skip, W_region, W_drawn, W_seq, W_cond, W_block, W_loop, W_exit, W_ret, seqQ_normal2, seqQ_exit2, seqQ_ret2, seqQ_pan2, blockW_normal2, blockW_ret2, blockW_pan2, blockW_exit2, WL_nil2, WL_cons, execL_no, execL_val2, execL_skip2, execL_enter2, execL_pan2, putL_none2, putL_some2, retL_ret2, retL_pan2, condW_t2, condW_f2, WR_nil2, WR_op, WR_re2, execR_no, execR_val2, execR_skip2, execR_enter2, putRW_none2, putRW_some2, retRW_ret2, fixQ_normal2, wantedA, exec1, evalO, initT, T.get_set, T.get_leaf, callA, mapO, ofOpt, ofOptS, ofConst, e1_P, e1_G, partsA, neNil3, neNil2, finW_ret, finW_pan, giveW, resultsA, tupA, fb_lss, fb_leq, fb_gtr, fb_geq, fb_add, fb_sub, fb_eqlI, fb_neqI, Nat.reduceLT, Nat.reduceAdd, Nat.reduceEqDiff, if_true, if_false, reduceIte, true_and, and_true, Option.getD_some, List.getElem?_toArray, List.getElem?_cons_succ, List.getElem?_cons_zero, Option.bind_some, List.nil_append, List.append_nil, beq_self_eq_true, Bool.false_eq_true, Bool.true_eq_false, decide_true, decide_false, Bool.not_true, Bool.not_false, Bool.false_beq, Bool.true_beq, Option.toList, List.head?_cons, List.head?_nil, app22, ld3, ld2, ld22, fa43_0, fa43_1, fa43_2, fa43_3, fa28_0, fa28_1, fa28_2, cellO_box, oExtract, get_put, put_next, get_newBox, newBox_next, lit22_1, lit22_0, AV.noTup, rsOf, againO, lookV, beqA_int, beqA_ptr, beqA_bs, h9, h10, hp1, hb, e1, hlen, hf15]
  refine WC.mono (room_w S1 q r room first _ most hQ1.hq) ?_
  rintro _ rfl
  have e2 := neq_self (room : Int)
  simp only [thenW_normal, thenW_exit, thenW_ret, thenW_pan, W_skip, W_region, W_drawn, W_seq, W_cond, W_block, W_loop, W_exit, W_ret, seqQ_normal2, seqQ_exit2, seqQ_ret2, seqQ_pan2, blockW_normal2, blockW_ret2, blockW_pan2, blockW_exit2, WL_nil2, WL_cons, execL_no, execL_val2, execL_skip2, execL_enter2, execL_pan2, putL_none2, putL_some2, retL_ret2, retL_pan2, condW_t2, condW_f2, WR_nil2, WR_op, WR_re2, execR_no, execR_val2, execR_skip2, execR_enter2, putRW_none2, putRW_some2, retRW_ret2, fixQ_normal2, wantedA, exec1, evalO, initT, T.get_set, T.get_leaf, callA, mapO, ofOpt, ofOptS, ofConst, e1_P, e1_G, partsA, neNil3, neNil2, finW_ret, finW_pan, giveW, resultsA, tupA, fb_lss, fb_leq, fb_gtr, fb_geq, fb_add, fb_sub, fb_eqlI, fb_neqI, Nat.reduceLT, Nat.reduceAdd, Nat.reduceEqDiff, if_true, if_false, reduceIte, true_and, and_true, Option.getD_some, List.getElem?_toArray, List.getElem?_cons_succ, List.getElem?_cons_zero, Option.bind_some, List.nil_append, List.append_nil, beq_self_eq_true, Bool.false_eq_true, Bool.true_eq_false, decide_true, decide_false, Bool.not_true, Bool.not_false, Bool.false_beq, Bool.true_beq, Option.toList, List.head?_cons, List.head?_nil, app22, ld3, ld2, ld22, fa43_0, fa43_1, fa43_2, fa43_3, fa28_0, fa28_1, fa28_2, cellO_box, oExtract, get_put, put_next, get_newBox, newBox_next, lit22_1, lit22_0, AV.noTup, rsOf, againO, lookV, beqA_int, beqA_ptr, beqA_bs, h9, h10, hp1, hb, e2, hlen, hf16]
  refine WC.mono (most_w S1 q r room first _ most hQ1.hq) ?_
  rintro _ rfl
  have e3 := neq_self (most : Int)
  simp only [thenW_normal, thenW_exit, thenW_ret, thenW_pan, W_skip, W_region, W_drawn, W_seq, W_cond, W_block, W_loop, W_exit, W_ret, seqQ_normal2, seqQ_exit2, seqQ_ret2, seqQ_pan2, blockW_normal2, blockW_ret2, blockW_pan2, blockW_exit2, WL_nil2, WL_cons, execL_no, execL_val2, execL_skip2, execL_enter2, execL_pan2, putL_none2, putL_some2, retL_ret2, retL_pan2, condW_t2, condW_f2, WR_nil2, WR_op, WR_re2, execR_no, execR_val2, execR_skip2, execR_enter2, putRW_none2, putRW_some2, retRW_ret2, fixQ_normal2, wantedA, exec1, evalO, initT, T.get_set, T.get_leaf, callA, mapO, ofOpt, ofOptS, ofConst, e1_P, e1_G, partsA, neNil3, neNil2, finW_ret, finW_pan, giveW, resultsA, tupA, fb_lss, fb_leq, fb_gtr, fb_geq, fb_add, fb_sub, fb_eqlI, fb_neqI, Nat.reduceLT, Nat.reduceAdd, Nat.reduceEqDiff, if_true, if_false, reduceIte, true_and, and_true, Option.getD_some, List.getElem?_toArray, List.getElem?_cons_succ, List.getElem?_cons_zero, Option.bind_some, List.nil_append, List.append_nil, beq_self_eq_true, Bool.false_eq_true, Bool.true_eq_false, decide_true, decide_false, Bool.not_true, Bool.not_false, Bool.false_beq, Bool.true_beq, Option.toList, List.head?_cons, List.head?_nil, app22, ld3, ld2, ld22, fa43_0, fa43_1, fa43_2, fa43_3, fa28_0, fa28_1, fa28_2, cellO_box, oExtract, get_put, put_next, get_newBox, newBox_next, lit22_1, lit22_0, AV.noTup, rsOf, againO, lookV, beqA_int, beqA_ptr, beqA_bs, h9, h10, hp1, hb, e3, hlen]
  refine hq _ S1 ⟨Nat.le_trans hP.two k1.1, hP.pq, hP.pr, Nat.lt_of_lt_of_le hP.pn k1.1, ⟨first, cs, hQ1⟩, ⟨l, hl, hp1⟩⟩ (fun k hk => ?_)
  have hne : ∀ j, 84 ≤ j → k ≠ j := fun j hj e => by omega
  simp only [T.get_set]
  repeat rw [if_neg (hne _ (by decide))]
end Go.Ax
