/-
  feed: rows of words.
-/
import Derived.Test.YtbchlfdjedbfhaaDoorWG14
import Derived.Test.YtbchlfdjedbfhaaDoorWG15
import Derived.OpenShut
import Derived.ChangeSlices
set_option linter.unusedVariables false
set_option linter.unusedSimpArgs false
set_option maxHeartbeats 16000000
noncomputable section
namespace Go.Ax
open Go.RowKit Go.Proofs
set_option linter.unusedVariables false
set_option linter.unusedSimpArgs false
set_option maxRecDepth 100000
theorem word_u {t : Bool} {x : Int} {S : St} {Q : R → Prop} (h0 : -9223372036854775808 ≤ x) (h1 : x ≤ 9223372036854775807) (h : Q (.ret (strS (wordF x t)) S)) : WC EZ 24 [declT t, i64A x] S Q :=
  callZ (word_k (strS [97]) (.v (.int .i64 0)) (.v (.bool false)) (strS []) (.v (.bool false)) rfl ⟨rfl, rfl, rfl, rfl, rfl⟩ t x h0 h1) (by kernel_rfl) rfl rfl fun a _ _ hs => by
    have := hs (declT t) t x rfl ⟨_, _, _, _, _, rfl⟩ h0 h1
    subst this
    exact h
theorem hrep : ∀ k, repA (strS []).cells k = List.replicate k (strS [])
  | 0 => rfl
  | k + 1 => by
    show (strS []).cells ++ repA (strS []).cells k = _
    rw [hrep k]; rfl
theorem make_S (S : St) (n : Nat) (h0 : 0 < n) (h : n ≤ 1000) : oMake Tryd.prog S 44 (.v (.int .i64 (n : Int))) (.v (.int .i64 (n : Int))) = some (.bs S.next 0 n 1, S.newBox (List.replicate n (strS []))) := by
  obtain ⟨i, hi⟩ : ∃ i, Tryd.prog.info? 9 = some i := Option.isSome_iff_exists.1 (by kernel_rfl)
  have h2 : (Tryd.prog.info? 9).map (fun i => (i.zero, i.size, decide (i.bytes ≤ 1000))) = some (some (.string ByteArray.empty), 1, true) := by kernel_rfl
  rw [hi] at h2
  simp only [Option.map_some, Option.some.injEq, Prod.mk.injEq, decide_eq_true_eq] at h2
  obtain ⟨z1, z2, z3⟩ := h2
  unfold oMake
  rw [yuS]
  simp only [hi, z1]
  have h4 : ofConst 8 (.string ByteArray.empty) = some (strS []) := rfl
  simp only [h4]
  have hb : (i.bytes : Int) * (n : Int) ≤ 281474976710656 := by
    have : i.bytes * n ≤ 1000 * 1000 := Nat.mul_le_mul z3 h
    have h5 : ((i.bytes * n : Nat) : Int) ≤ 1000000 := by omega
    rw [Int.natCast_mul] at h5
    omega
  rw [if_pos ⟨by omega, Int.le_refl _, hb, by omega, rfl, by rw [z2]; rfl, by rw [z2]; decide⟩, if_neg (by omega), z2, Int.toNat_natCast, hrep]
theorem make_S0 (S : St) : oMake Tryd.prog S 44 (.v (.int .i64 ((0 : Nat) : Int))) (.v (.int .i64 ((0 : Nat) : Int))) = some (.sl S.next 0 1 [], mkS S) := by
  obtain ⟨i, hi⟩ : ∃ i, Tryd.prog.info? 9 = some i := Option.isSome_iff_exists.1 (by kernel_rfl)
  have h2 : (Tryd.prog.info? 9).map (fun i => (i.zero, i.size, decide (i.bytes ≤ 1000))) = some (some (.string ByteArray.empty), 1, true) := by kernel_rfl
  rw [hi] at h2
  simp only [Option.map_some, Option.some.injEq, Prod.mk.injEq, decide_eq_true_eq] at h2
  obtain ⟨z1, z2, z3⟩ := h2
  unfold oMake
  rw [yuS]
  simp only [hi, z1]
  have h4 : ofConst 8 (.string ByteArray.empty) = some (strS []) := rfl
  simp only [h4]
  rw [if_pos ⟨by omega, Int.le_refl _, by simp, by omega, rfl, by rw [z2]; rfl, by rw [z2]; decide⟩, if_pos (show ((0 : Nat) : Int) = 0 from rfl), z2]
  rfl
theorem ix_bs (id n i : Nat) (h : i < n) : oIndexAddr Tryd.prog 44 (.bs id 0 n 1) (.v (.int .i64 (i : Int))) = some (.ptr id i) := by
  have h0 : (0 : Int) ≤ (i : Int) := by omega
  have h1 : ((i : Int) < (n : Int)) := by omega
  simp [oIndexAddr, h0, yeS, yzeS, h1]
theorem ya56 (S : St) : oAlloc Tryd.prog S 56 = some (.ptr S.next 0, S.newBox [.v (.string ⟨⟨[]⟩⟩), .v (.int .i64 0), .v (.bool false), .v (.bool false), .v (.string ⟨⟨[]⟩⟩), .v (.bool false)]) := by kernel_rfl
theorem yl56 (S : St) (p k : Nat) : oLoad Tryd.prog S 56 (.ptr p k) = clN (S.mem.get p) k 6 := vldG yg56' yz56' S p k
theorem ys56 (S : St) (p k : Nat) (v : AV) : oStore Tryd.prog S 56 (.ptr p k) v = vstB S (S.mem.get p) p k v 6 := vstG yz56' S p k v
theorem declT_is (t : Bool) : declT t = .agg [.v (.string ⟨⟨[97]⟩⟩), .v (.int .i64 0), .v (.bool t), .v (.bool false), .v (.string ⟨⟨[]⟩⟩), .v (.bool false)] := rfl
theorem declT_cells (t : Bool) : (declT t).cells = [.v (.string ⟨⟨[97]⟩⟩), .v (.int .i64 0), .v (.bool t), .v (.bool false), .v (.string ⟨⟨[]⟩⟩), .v (.bool false)] := rfl
/-- The first words of a row. -/
def wsTo (bs : List Bool) (vs : List Int) (n : Nat) : List (List UInt8) := (List.range n).map fun j => wordF (vs.getD j 0) (bs.getD j false)
theorem wsTo_succ (bs : List Bool) (vs : List Int) (n : Nat) : wsTo bs vs (n + 1) = wsTo bs vs n ++ [wordF (vs.getD n 0) (bs.getD n false)] := by
  unfold wsTo; rw [List.range_succ, List.map_append]; rfl
theorem wsTo_len (bs : List Bool) (vs : List Int) (n : Nat) : (wsTo bs vs n).length = n := by unfold wsTo; rw [List.length_map, List.length_range]
def cellsW (bs : List Bool) (vs : List Int) (n i : Nat) : List AV := (wsTo bs vs i).map strS ++ List.replicate (n - i) (strS [])
theorem cellsW_len (bs : List Bool) (vs : List Int) (n i : Nat) (h : i ≤ n) : (cellsW bs vs n i).length = n := by
  unfold cellsW; rw [List.length_append, List.length_map, wsTo_len, List.length_replicate]; omega
theorem cellsW_put (bs : List Bool) (vs : List Int) (n i : Nat) (h : i < n) : (cellsW bs vs n i).take i ++ strS (wordF (vs.getD i 0) (bs.getD i false)) :: (cellsW bs vs n i).drop (i + 1) = cellsW bs vs n (i + 1) := by
  have hl : ((wsTo bs vs i).map strS).length = i := by rw [List.length_map, wsTo_len]
  unfold cellsW
  rw [List.take_append_of_le_length (by omega), List.take_of_length_le (by omega), List.drop_append, List.drop_of_length_le (by omega), List.nil_append, hl, List.drop_replicate, wsTo_succ, List.map_append, List.append_assoc]
  rw [show i + 1 - i = 1 from by omega, show n - i - 1 = n - (i + 1) from by omega]
  rfl
theorem join_snoc (sep w : List UInt8) (ws : List (List UInt8)) : Lib.join (ws ++ [w]) sep = (Lib.join ws sep ++ if ws = [] then [] else sep) ++ w := by
  cases ws with
  | nil => show Lib.join [w] sep = _; rw [Lib.join_one]; rfl
  | cons a r =>
    rw [List.cons_append, Lib.join_cons, Lib.join_cons, if_neg (by simp)]
    unfold Lib.joinTail
    simp [List.append_assoc]
theorem lineTo_join (bs : List Bool) (vs : List Int) : ∀ n, lineTo bs vs n = Lib.join (wsTo bs vs n) [32]
  | 0 => rfl
  | n + 1 => by
    rw [wsTo_succ, join_snoc, lineTo, lineTo_join bs vs n]
    cases n with
    | zero => rfl
    | succ n =>
      have : wsTo bs vs (n + 1) ≠ [] := by rw [wsTo_succ]; simp
      rw [if_neg this, if_neg (by omega)]
theorem strs_of : ∀ ws : List (List UInt8), strsOf (ws.map strS) = some ws
  | [] => rfl
  | w :: r => by
    show (match strsOf (r.map strS) with | some l => some (w :: l) | none => none) = _
    rw [strs_of r]
theorem join_bs {S : St} {Q : R → Prop} {id n : Nat} {ws : List (List UInt8)} {s : List UInt8} (hm : S.mem.get id = some (.box (ws.map strS))) (hl : ws.length = n) (hn : n ≤ 1000000) (hj : (Lib.join ws s).length ≤ 1000000000) (h : Q (.ret (strS (Lib.join ws s)) S)) : WC EZ 17 [.bs id 0 n 1, strS s] S Q := by
  refine WC_known ez_join ?_
  show Q (joinB [.bs id 0 n 1, .v (.string ⟨⟨s⟩⟩)] S)
  unfold joinB
  simp only [hm, strs_of]
  rw [if_pos ⟨hl, hn, hj⟩]
  exact h
theorem join_sl {S : St} {Q : R → Prop} {tok off : Nat} {ws : List (List UInt8)} {s : List UInt8} (hn : ws.length ≤ 1000000) (hj : (Lib.join ws s).length ≤ 1000000000) (h : Q (.ret (strS (Lib.join ws s)) S)) : WC EZ 17 [.sl tok off 1 (ws.map strS), strS s] S Q := by
  refine WC_known ez_join ?_
  show Q (joinB [.sl tok off 1 (ws.map strS), .v (.string ⟨⟨s⟩⟩)] S)
  unfold joinB
  simp only [strs_of]
  rw [if_pos ⟨hn, hj⟩]
  exact h
end Go.Ax
noncomputable section
namespace Go.Ax
open Go.RowKit Go.Proofs
set_option linter.unusedVariables false
set_option linter.unusedSimpArgs false
set_option maxRecDepth 100000
theorem fnz_17 : ∃ fn, EZ.F 17 = some fn := Option.isSome_iff_exists.1 (by kernel_rfl)
def fwLB : Code := match Tryd.f15.body with
  | some (.seq _ (.seq _ (.seq _ (.seq (.seq _ (.block _ (.loop c))) _)))) => c
  | _ => .skip
theorem fwLB_is : (match fwLB with | .skip => false | _ => true) = true := by kernel_rfl
theorem ok_get {vs : List Int} (h : okInts vs) (i : Nat) : -9223372036854775808 ≤ vs.getD i 0 ∧ vs.getD i 0 ≤ 9223372036854775807 := by
  rw [List.getD_eq_getElem?_getD]
  cases hx : vs[i]? with
  | none => exact ⟨by show (-9223372036854775808 : Int) ≤ 0; decide, by show (0 : Int) ≤ 9223372036854775807; decide⟩
  | some x => exact h x (List.mem_of_getElem? hx)
theorem fw_lp {bs : List Bool} {w : AV} {vs : List Int} (hb : bs.length ≤ 1000) (hw : isInts w vs) (hok : okInts vs) {wid : Nat} : ∀ (m i : Nat) (t : T AV) (S : St), i + m = bs.length → S.mem.get wid = some (.box (cellsW bs vs bs.length i)) → wid < S.next → t.get 1 = some w → t.get 5 = some (.bs wid 0 bs.length 1) → t.get 15 = some (.sl 0 0 6 (bs.map declT)) → t.get 16 = some (.v (.int .i64 ((bs.length : Nat) : Int))) → t.get 17 = some (.v (.int .i64 ((i : Nat) : Int))) →
    WX EZ 39 (.loop fwLB) ⟨t, []⟩ S (fun r => ∃ t' S', r = .out (.exit 0) ⟨t', []⟩ S' ∧ t'.get 5 = some (.bs wid 0 bs.length 1) ∧ S'.mem.get wid = some (.box (cellsW bs vs bs.length bs.length)))
  | 0, i, t, S, hi, hm, hn, T1, T5, T15, T16, T17 => by
    refine WX_loop (W_sound ?_)
    have hlt : decide ((i : Int) < (bs.length : Int)) = false := by rw [decide_eq_false_iff_not]; omega
    have hi : i = bs.length := by omega
    rw [hi] at hm
    simp (maxSteps := 2000000) (disch := omega) only [thenW_exit, W_skip, W_region, W_seq, W_cond, W_block, W_exit, seqQ_normal2, seqQ_exit2, WL_nil2, WL_cons, execL_val2, putL_some2, condW_f2, wantedA, exec1, evalO, T.get_set, ofOpt, neNil3, fb_lss, Nat.reduceLT, Nat.reduceEqDiff, if_true, if_false, true_and, Bool.false_eq_true, ez_P, fwLB, Tryd.f15, T15, T16, T17, hlt]
    refine ⟨_, _, rfl, ?_, hm⟩
    simp only [T.get_set, Nat.reduceEqDiff, if_false, T5]
  | m + 1, i, t, S, hi, hm, hn, T1, T5, T15, T16, T17 => by
    refine WX_loop (W_sound ?_)
    have hil : i < bs.length := by omega
    have hlt : decide ((i : Int) < (bs.length : Int)) = true := by rw [decide_eq_true_eq]; omega
    have hix := yxO 0 0 (bs.map declT) i (by rw [List.length_map]; exact hil)
    rw [List.getElem_map] at hix
    have hgd : bs.getD i false = bs[i] := by rw [List.getD_eq_getElem?_getD, List.getElem?_eq_getElem hil]; rfl
    have hput := cellsW_put bs vs bs.length i hil
    rw [hgd] at hput
    generalize bs[i] = bt at hix hput
    have hld := fun S => yle56 S bt
    rw [declT_cells] at hix
    rw [declT_cells, declT_is] at hld
    have hw1 := wrapS i (by omega)
    have hne : (wid = S.next) = False := eq_false (by omega)
    have hlw := fun S => ints_len hw S
    have hxs := ix_bs wid bs.length i hil
    have hcl : i + 1 ≤ (cellsW bs vs bs.length i).length := by rw [cellsW_len _ _ _ _ (by omega)]; omega
    obtain ⟨ok1, ok2⟩ := ok_get hok i
    obtain ⟨fn1, hf1⟩ := fnz_24
    have fin : ∀ (t' : T AV) (S' : St), S'.mem.get wid = some (.box (cellsW bs vs bs.length (i + 1))) → wid < S'.next → t'.get 1 = some w → t'.get 5 = some (.bs wid 0 bs.length 1) → t'.get 15 = some (.sl 0 0 6 (bs.map declT)) → t'.get 16 = some (.v (.int .i64 ((bs.length : Nat) : Int))) → t'.get 17 = some (.v (.int .i64 ((i + 1 : Nat) : Int))) → WX EZ 39 (.loop fwLB) ⟨t', []⟩ S' (fun r => ∃ t' S', r = .out (.exit 0) ⟨t', []⟩ S' ∧ t'.get 5 = some (.bs wid 0 bs.length 1) ∧ S'.mem.get wid = some (.box (cellsW bs vs bs.length bs.length))) := fun t' S' h1 h2 h3 h4 h5 h6 h7 =>
      fw_lp hb hw hok m (i + 1) t' S' (by omega) h1 h2 h3 h4 h5 h6 h7
    generalize cellsW bs vs bs.length i = cw at hm hput hcl
    generalize cellsW bs vs bs.length (i + 1) = cw2 at hput fin
    by_cases hiv : i < vs.length
    · have e1 : decide ((i : Int) < (vs.length : Int)) = true := by rw [decide_eq_true_eq]; omega
      have hiw := ints_idx hw i hiv
      unfold i64A at hiw
      simp (maxSteps := 2000000) (disch := omega) only [thenW_exit, W_skip, W_region, W_seq, W_cond, W_block, W_exit, seqQ_normal2, seqQ_exit2, WL_nil2, WL_cons, execL_val2, execL_skip2, execL_enter2, putL_none2, putL_some2, condW_t2, wantedA, exec1, evalO, T.get_set, callA, mapO, ofOpt, ofOptS, ofConst, neNil3, fb_lss, Nat.reduceLT, Nat.reduceAdd, Nat.reduceEqDiff, if_true, if_false, true_and, List.nil_append, List.append_nil, Bool.false_eq_true, to_get, nb_get, clN_box, vstB_agg, List.length_cons, List.length_nil, Nat.zero_add, Nat.reduceLeDiff, List.drop_zero, List.drop_succ_cons, List.drop_nil, List.take_succ_cons, List.take_zero, and_self, ez_P, yle2, ya56, yl56, ys56, hix, hld, hlw, e1, hiw, hf1, vstB_agg, clN_box, to_get, nb_get, List.length_cons, List.length_nil, fwLB, Tryd.f15, T1, T5, T15, T16, T17, hlt]
      refine word_u ok1 ok2 ?_
      unfold strS at hput ⊢
      simp (maxSteps := 2000000) (disch := omega) only [thenW_normal, W_region, seqQ_normal2, blockW_normal2, WL_nil2, WL_cons, execL_val2, execL_skip2, putL_none2, putL_some2, retL_ret2, wantedA, exec1, evalO, T.get_set, ofOpt, ofConst, neNil3, fb_add, Nat.reduceLT, Nat.reduceEqDiff, if_true, if_false, true_and, Bool.false_eq_true, to_get, nb_get, vstB_v, ez_P, ys9, hxs, hm, hne, hput, hcl, hw1, to_get, nb_get, T17]
      refine fin _ _ ?_ ?_ ?_ ?_ ?_ ?_ ?_
      · rw [to_get, if_pos rfl]
      · simp only [to_next, nb_next]; omega
      all_goals simp only [T.get_set, Nat.reduceEqDiff, if_true, if_false, T1, T5, T15, T16]
    · have e1 : decide ((i : Int) < (vs.length : Int)) = false := by rw [decide_eq_false_iff_not]; omega
      have hz : vs.getD i 0 = 0 := by rw [List.getD_eq_getElem?_getD, List.getElem?_eq_none (by omega)]; rfl
      rw [hz] at hput
      simp (maxSteps := 2000000) (disch := omega) only [thenW_exit, W_skip, W_region, W_seq, W_cond, W_block, W_exit, seqQ_normal2, seqQ_exit2, WL_nil2, WL_cons, execL_val2, execL_skip2, execL_enter2, putL_none2, putL_some2, condW_t2, condW_f2, wantedA, exec1, evalO, T.get_set, callA, mapO, ofOpt, ofOptS, ofConst, neNil3, fb_lss, Nat.reduceLT, Nat.reduceAdd, Nat.reduceEqDiff, if_true, if_false, true_and, List.nil_append, List.append_nil, Bool.false_eq_true, to_get, nb_get, clN_box, vstB_agg, List.length_cons, List.length_nil, Nat.zero_add, Nat.reduceLeDiff, List.drop_zero, List.drop_succ_cons, List.drop_nil, List.take_succ_cons, List.take_zero, and_self, ez_P, ya56, yl56, ys56, hix, hld, hlw, e1, hf1, vstB_agg, clN_box, to_get, nb_get, List.length_cons, List.length_nil, fwLB, Tryd.f15, T1, T5, T15, T16, T17, hlt]
      refine word_u (x := 0) (by decide) (by decide) ?_
      unfold strS at hput ⊢
      simp (maxSteps := 2000000) (disch := omega) only [thenW_normal, W_region, seqQ_normal2, blockW_normal2, WL_nil2, WL_cons, execL_val2, execL_skip2, putL_none2, putL_some2, retL_ret2, wantedA, exec1, evalO, T.get_set, ofOpt, ofConst, neNil3, fb_add, Nat.reduceLT, Nat.reduceEqDiff, if_true, if_false, true_and, Bool.false_eq_true, to_get, nb_get, vstB_v, ez_P, ys9, hxs, hm, hne, hput, hcl, hw1, to_get, nb_get, T17]
      refine fin _ _ ?_ ?_ ?_ ?_ ?_ ?_ ?_
      · rw [to_get, if_pos rfl]
      · simp only [to_next, nb_next]; omega
      all_goals simp only [T.get_set, Nat.reduceEqDiff, if_true, if_false, T1, T5, T15, T16]
theorem ints_inj {w : AV} {xs ys : List Int} (hx : isInts w xs) (hy : isInts w ys) : xs = ys := by
  have inj : ∀ {xs ys : List Int}, xs.map i64A = ys.map i64A → xs = ys := fun h => by
    have := congrArg (List.map fun a => match a with | AV.v (.int _ n) => n | _ => 0) h
    rw [List.map_map, List.map_map] at this
    have id' : ∀ l : List Int, l.map ((fun a => match a with | AV.v (.int _ n) => n | _ => 0) ∘ i64A) = l := fun l => by
      refine (List.map_congr_left (fun _ _ => rfl)).trans (List.map_id _)
    rw [id', id'] at this
    exact this
  rcases hx with ⟨rfl, rfl⟩ | ⟨tok, off, rfl⟩ | ⟨a, rfl, rfl⟩
  · rcases hy with ⟨_, rfl⟩ | ⟨_, _, h⟩ | ⟨_, h, _⟩
    · rfl
    · cases h
    · cases h
  · rcases hy with ⟨h, _⟩ | ⟨tok', off', h⟩ | ⟨_, h, _⟩
    · cases h
    · injection h with _ _ _ h
      exact inj h
    · cases h
  · rcases hy with ⟨h, _⟩ | ⟨_, _, h⟩ | ⟨_, _, rfl⟩
    · cases h
    · cases h
    · rfl
theorem cells_full (bs : List Bool) (vs : List Int) (n : Nat) : cellsW bs vs n n = (wsTo bs vs n).map strS := by unfold cellsW; rw [Nat.sub_self]; simp
theorem cells_none (bs : List Bool) (vs : List Int) (n : Nat) : cellsW bs vs n 0 = List.replicate n (strS []) := by unfold cellsW wsTo; simp
theorem frow_k (bs : List Bool) (w : AV) (vs : List Int) (hb : bs.length ≤ 5) (hw : isInts w vs) (hok : okInts vs) : KnZ 15 [.sl 0 0 6 (bs.map declT), w] := by
  refine bodyZ Tryd.f15 (by kernel_rfl) (by kernel_rfl) (show (_ : Nat) ≤ _ from by show (_ : Nat) ≤ _; simp [Tryd.f15]) ?_
  obtain ⟨fn1, hf1⟩ := fnz_17
  have fin : ∀ (x : List UInt8) (S' : St), lineF bs vs = x → ∃ a S'', R.ret (.v (.string ⟨⟨x⟩⟩)) S' = R.ret a S'' ∧ freeV a = true ∧ SpecZ 15 [.sl 0 0 6 (bs.map declT), w] (clean a) := fun x S' h => by
    refine ⟨_, _, rfl, rfl, ?_⟩
    intro bs' w' vs' e _ hw' _
    simp only [List.cons.injEq, and_true, AV.sl.injEq, true_and] at e
    have e1 := decls_inj e.1
    have e2 := e.2
    subst e1; subst e2
    rw [← ints_inj hw hw', h]
    rfl
  have hl : (bs.map declT).length = bs.length := List.length_map ..
  by_cases hnil : bs = []
  · subst hnil
    have h0 : (((0 : Nat) : Int) == 0) = true := rfl
    simp (maxSteps := 2000000) (disch := omega) only [W_skip, W_region, W_seq, W_cond, W_ret, seqQ_normal2, seqQ_ret2, WL_nil2, WL_cons, execL_val2, putL_some2, condW_t2, wantedA, exec1, evalO, initT, T.get_set, T.get_leaf, callA, ofOpt, ofOptS, ofConst, neNil3, finW_ret, giveW, resultsA, tupA, fb_eqlI, Nat.reduceLT, Nat.reduceEqDiff, if_true, if_false, true_and, Option.getD_some, Bool.false_eq_true, List.length_nil, Nat.zero_add, ez_P, ynO, Tryd.f15, h0, List.map_nil, List.length_nil]
    exact fin [46] _ (by unfold lineF; rw [if_pos rfl])
  · have hpos : 0 < bs.length := List.length_pos_iff.2 hnil
    have h0 : (((bs.length : Nat) : Int) == 0) = false := by rw [beq_eq_false_iff_ne]; omega
    have hmk := fun S => make_S S bs.length hpos (by omega)
    have key := fun t S wid => fw_lp (bs := bs) (w := w) (vs := vs) (wid := wid) (by omega) hw hok bs.length 0 t S (by omega)
    unfold fwLB at key
    simp only [Tryd.f15] at key
    have hlf : lineF bs vs = Lib.join (wsTo bs vs bs.length) [32] := by unfold lineF; rw [if_neg hnil, lineTo_join]
    have hll : (Lib.join (wsTo bs vs bs.length) [32]).length ≤ 1000000000 := by rw [← lineTo_join]; have := line_len (ts := bs) hok bs.length; omega
    simp (maxSteps := 2000000) (disch := omega) only [W_skip, W_region, W_seq, W_cond, W_block, W_loop, W_ret, seqQ_normal2, seqQ_ret2, WL_nil2, WL_cons, execL_val2, putL_some2, condW_f2, wantedA, exec1, evalO, initT, T.get_set, T.get_leaf, callA, ofOpt, ofOptS, ofConst, neNil3, finW_ret, giveW, resultsA, tupA, fb_eqlI, Nat.reduceLT, Nat.reduceEqDiff, if_true, if_false, true_and, Option.getD_some, Bool.false_eq_true, st0_next, Nat.zero_add, ez_P, ynO, Tryd.f15, h0, hl, hmk]
    refine WX.mono (key _ _ 2 ?_ ?_ ?_ ?_ ?_ ?_ ?_) ?_
    · rw [cells_none]; rfl
    · show 2 < 2 + 1; omega
    · simp only [T.get_set, Nat.reduceEqDiff, if_true, if_false]
    · simp only [T.get_set, Nat.reduceEqDiff, if_true, if_false]
    · simp only [T.get_set, Nat.reduceEqDiff, if_true, if_false]
    · simp only [T.get_set, Nat.reduceEqDiff, if_true, if_false]
    · simp only [T.get_set, Nat.reduceEqDiff, if_true, if_false]; rfl
    · rintro r ⟨t', S', rfl, T5, hm⟩
      rw [cells_full] at hm
      simp (maxSteps := 2000000) (disch := omega) only [W_region, W_seq, seqQ_normal2, seqQ_exit2, blockW_exit2, WL_cons, execL_val2, execL_enter2, putL_some2, wantedA, exec1, evalO, T.get_set, callA, mapO, ofOpt, ofConst, Nat.reduceLT, if_true, true_and, List.nil_append, List.append_nil, T5, hf1]
      refine join_bs hm (wsTo_len _ _ _) (by omega) hll ?_
      unfold strS
      simp (maxSteps := 2000000) (disch := omega) only [W_ret, seqQ_normal2, WL_nil2, WL_cons, execL_val2, putL_some2, retL_ret2, wantedA, exec1, evalO, T.get_set, ofOpt, finW_ret, giveW, resultsA, tupA, Nat.reduceLT, Nat.reduceEqDiff, if_true, if_false, true_and]
      exact fin _ _ hlf
theorem frow_u {bs : List Bool} {w : AV} {vs : List Int} {S : St} {Q : R → Prop} (hb : bs.length ≤ 5) (hw : isInts w vs) (hok : okInts vs) (h : Q (.ret (strS (lineF bs vs)) S)) : WC EZ 15 [.sl 0 0 6 (bs.map declT), w] S Q :=
  callZ (frow_k bs (clean w) vs hb (ints_cl hw).2 hok) (by kernel_rfl) (by show (freeL (bs.map declT) && (freeV w && true)) = true; rw [(decls_free bs).1, (ints_cl hw).1]; rfl) (by show [AV.sl 0 0 6 (cleanL (bs.map declT)), clean w] = _; rw [(decls_free bs).2]) fun a _ _ hs => by
    have := hs bs (clean w) vs rfl hb (ints_cl hw).2 hok
    subst this
    exact h
end Go.Ax
noncomputable section
namespace Go.Ax
open Go.RowKit Go.Proofs
set_option linter.unusedVariables false
set_option linter.unusedSimpArgs false
set_option maxRecDepth 100000
def declY (t : Bool) : AV := .agg [.v (.string ⟨⟨[121]⟩⟩), .v (.int .i64 0), .v (.bool t), .v (.bool false), .v (.string ⟨⟨[]⟩⟩), .v (.bool false)]
theorem wordY_u {t : Bool} {x : Int} {S : St} {Q : R → Prop} (h0 : -9223372036854775808 ≤ x) (h1 : x ≤ 9223372036854775807) (h : Q (.ret (strS (wordF x t)) S)) : WC EZ 24 [declY t, i64A x] S Q :=
  callZ (word_k (strS [121]) (.v (.int .i64 0)) (.v (.bool false)) (strS []) (.v (.bool false)) rfl ⟨rfl, rfl, rfl, rfl, rfl⟩ t x h0 h1) (by kernel_rfl) rfl rfl fun a _ _ hs => by
    have := hs (declY t) t x rfl ⟨_, _, _, _, _, rfl⟩ h0 h1
    subst this
    exact h
def fpLB : Code := match Tryd.f18.body with
  | some (.seq _ (.seq _ (.seq (.seq _ (.block _ (.loop c))) _))) => c
  | _ => .skip
theorem fpLB_is : (match fpLB with | .skip => false | _ => true) = true := by kernel_rfl
theorem fp_lp {t1 : Bool} {w : AV} {vs : List Int} (hb : vs.length ≤ 1000) (hw : isInts w vs) (hok : okInts vs) {wid : Nat} : ∀ (m i : Nat) (t : T AV) (S : St), i + m = vs.length → (0 < vs.length → S.mem.get wid = some (.box (cellsW (List.replicate vs.length t1) vs vs.length i)) ∧ t.get 5 = some (.bs wid 0 vs.length 1)) → (vs.length = 0 → t.get 5 = some (.sl wid 0 1 [])) → S.mem.get 2 = some (.box (declY t1).cells) → wid ≠ 2 → t.get 2 = some (.ptr 2 0) → t.get 11 = some w → t.get 12 = some (.v (.int .i64 ((vs.length : Nat) : Int))) → t.get 13 = some (.v (.int .i64 ((i : Nat) : Int))) →
    WX EZ 27 (.loop fpLB) ⟨t, []⟩ S (fun r => ∃ t' S', r = .out (.exit 0) ⟨t', []⟩ S' ∧ (0 < vs.length → S'.mem.get wid = some (.box (cellsW (List.replicate vs.length t1) vs vs.length vs.length)) ∧ t'.get 5 = some (.bs wid 0 vs.length 1)) ∧ (vs.length = 0 → t'.get 5 = some (.sl wid 0 1 [])))
  | 0, i, t, S, hi, hm, hm0, m2, hwn, T2, T11, T12, T13 => by
    refine WX_loop (W_sound ?_)
    have hlt : decide ((i : Int) < (vs.length : Int)) = false := by rw [decide_eq_false_iff_not]; omega
    have hi : i = vs.length := by omega
    rw [hi] at hm
    simp (maxSteps := 2000000) (disch := omega) only [thenW_exit, W_skip, W_region, W_seq, W_cond, W_block, W_exit, seqQ_normal2, seqQ_exit2, WL_nil2, WL_cons, execL_val2, putL_some2, condW_f2, wantedA, exec1, evalO, T.get_set, ofOpt, neNil3, fb_lss, Nat.reduceLT, Nat.reduceEqDiff, if_true, if_false, true_and, Bool.false_eq_true, ez_P, fpLB, Tryd.f18, T11, T12, T13, hlt]
    refine ⟨_, _, rfl, fun h => ⟨(hm h).1, ?_⟩, fun h => ?_⟩
    · simp only [T.get_set, Nat.reduceEqDiff, if_false, (hm h).2]
    · simp only [T.get_set, Nat.reduceEqDiff, if_false, hm0 h]
  | m + 1, i, t, S, hi, hm, hm0, m2, hwn, T2, T11, T12, T13 => by
    refine WX_loop (W_sound ?_)
    have hil : i < vs.length := by omega
    obtain ⟨hmm, T5⟩ := hm (by omega)
    have hlt : decide ((i : Int) < (vs.length : Int)) = true := by rw [decide_eq_true_eq]; omega
    have hgd : (List.replicate vs.length t1).getD i false = t1 := by rw [List.getD_eq_getElem?_getD, List.getElem?_replicate, if_pos hil]; rfl
    have hput := cellsW_put (List.replicate vs.length t1) vs vs.length i hil
    rw [hgd] at hput
    have hw1 := wrapS i (by omega)
    have hiw := ints_idx hw i hil
    have hxs := ix_bs wid vs.length i hil
    have hcl : i + 1 ≤ (cellsW (List.replicate vs.length t1) vs vs.length i).length := by rw [cellsW_len _ _ _ _ (by omega)]; omega
    obtain ⟨ok1, ok2⟩ := ok_get hok i
    obtain ⟨fn1, hf1⟩ := fnz_24
    have fin : ∀ (t' : T AV) (S' : St), S'.mem.get wid = some (.box (cellsW (List.replicate vs.length t1) vs vs.length (i + 1))) → t'.get 5 = some (.bs wid 0 vs.length 1) → S'.mem.get 2 = some (.box (declY t1).cells) → t'.get 2 = some (.ptr 2 0) → t'.get 11 = some w → t'.get 12 = some (.v (.int .i64 ((vs.length : Nat) : Int))) → t'.get 13 = some (.v (.int .i64 ((i + 1 : Nat) : Int))) → WX EZ 27 (.loop fpLB) ⟨t', []⟩ S' (fun r => ∃ t' S', r = .out (.exit 0) ⟨t', []⟩ S' ∧ (0 < vs.length → S'.mem.get wid = some (.box (cellsW (List.replicate vs.length t1) vs vs.length vs.length)) ∧ t'.get 5 = some (.bs wid 0 vs.length 1)) ∧ (vs.length = 0 → t'.get 5 = some (.sl wid 0 1 []))) := fun t' S' h1 h2 h3 h4 h5 h6 h7 =>
      fp_lp hb hw hok m (i + 1) t' S' (by omega) (fun _ => ⟨h1, h2⟩) (fun h => by omega) h3 hwn h4 h5 h6 h7
    have m2' : S.mem.get 2 = some (.box [.v (.string ⟨⟨[121]⟩⟩), .v (.int .i64 0), .v (.bool t1), .v (.bool false), .v (.string ⟨⟨[]⟩⟩), .v (.bool false)]) := m2
    generalize cellsW (List.replicate vs.length t1) vs vs.length i = cw at hmm hput hcl
    generalize cellsW (List.replicate vs.length t1) vs vs.length (i + 1) = cw2 at hput fin
    unfold i64A at hiw
    simp (maxSteps := 2000000) (disch := omega) only [thenW_exit, W_skip, W_region, W_seq, W_cond, W_block, W_exit, seqQ_normal2, seqQ_exit2, WL_nil2, WL_cons, execL_val2, execL_enter2, putL_some2, condW_t2, wantedA, exec1, evalO, T.get_set, callA, mapO, ofOpt, neNil3, fb_lss, Nat.reduceLT, Nat.reduceAdd, Nat.reduceEqDiff, if_true, if_false, true_and, List.nil_append, List.append_nil, Bool.false_eq_true, clN_box, List.length_cons, List.length_nil, Nat.zero_add, Nat.reduceLeDiff, List.drop_zero, List.take_succ_cons, List.take_zero, ez_P, yle2, yl56, T5, hiw, m2', hf1, clN_box, List.length_cons, List.length_nil, fpLB, Tryd.f18, T2, T11, T12, T13, hlt]
    refine wordY_u ok1 ok2 ?_
    unfold strS at hput ⊢
    simp (maxSteps := 2000000) (disch := omega) only [thenW_normal, W_region, seqQ_normal2, blockW_normal2, WL_nil2, WL_cons, execL_val2, execL_skip2, putL_none2, putL_some2, retL_ret2, wantedA, exec1, evalO, T.get_set, ofOpt, ofConst, neNil3, fb_add, Nat.reduceLT, Nat.reduceEqDiff, if_true, if_false, true_and, Bool.false_eq_true, vstB_v, ez_P, ys9, hxs, hmm, hput, hcl, hw1, T13]
    refine fin _ _ ?_ ?_ ?_ ?_ ?_ ?_ ?_
    · rw [to_get, if_pos rfl]
    · simp only [T.get_set, Nat.reduceEqDiff, if_false, T5]
    · rw [to_get, if_neg (Ne.symm hwn)]; exact m2
    all_goals simp only [T.get_set, Nat.reduceEqDiff, if_true, if_false, T2, T11, T12]
theorem wsP_is (t : Bool) (vs : List Int) : wsTo (List.replicate vs.length t) vs vs.length = vs.map fun x => wordF x t := by
  unfold wsTo
  refine List.ext_getElem (by simp) fun i h1 h2 => ?_
  have h3 : i < vs.length := by simpa using h2
  simp only [List.getElem_map, List.getElem_range]
  rw [List.getD_eq_getElem?_getD, List.getElem?_eq_getElem h3, List.getD_eq_getElem?_getD, List.getElem?_replicate, if_pos h3]
  rfl
theorem port_k (t : Bool) (w : AV) (vs : List Int) (hb : vs.length ≤ 1000) (hw : isInts w vs) (hok : okInts vs) : KnZ 18 [declY t, w] := by
  refine bodyZ Tryd.f18 (by kernel_rfl) (by kernel_rfl) (show (_ : Nat) ≤ _ from by show (_ : Nat) ≤ _; simp [Tryd.f18]) ?_
  obtain ⟨fn1, hf1⟩ := fnz_17
  have fin : ∀ (x : List UInt8) (S' : St), Lib.join (vs.map fun x => wordF x t) [32] = x → ∃ a S'', R.ret (.v (.string ⟨⟨x⟩⟩)) S' = R.ret a S'' ∧ freeV a = true ∧ SpecZ 18 [declY t, w] (clean a) := fun x S' h => by
    refine ⟨_, _, rfl, rfl, ?_⟩
    intro d t' w' vs' e hd hw' _ _
    simp only [List.cons.injEq, and_true] at e
    obtain ⟨nm, at_, fu, ck, off, rfl⟩ := hd
    have e1 := e.1
    have e2 := e.2
    subst e2
    unfold declY at e1
    simp only [AV.agg.injEq, List.cons.injEq, AV.v.injEq, Value.bool.injEq, and_true] at e1
    rw [← e1.2.2.1, ← ints_inj hw hw', h]
    rfl
  have hlw := fun S => ints_len hw S
  have key := fun tt S wid => fp_lp (t1 := t) (w := w) (vs := vs) (wid := wid) hb hw hok vs.length 0 tt S (by omega)
  unfold fpLB at key
  simp only [Tryd.f18] at key
  by_cases h0 : vs.length = 0
  · have hmk := make_S0
    have hnil : vs = [] := List.eq_nil_of_length_eq_zero h0
    rw [h0] at hlw
    unfold declY
    simp (maxSteps := 2000000) (disch := omega) only [W_region, W_seq, W_block, W_loop, seqQ_normal2, WL_nil2, WL_cons, execL_val2, putL_some2, wantedA, exec1, evalO, initT, T.get_set, T.get_leaf, callA, ofOpt, ofOptS, ofConst, Nat.reduceLT, Nat.reduceAdd, Nat.reduceEqDiff, if_true, if_false, true_and, Option.getD_some, nb_next, st0_next, Nat.zero_add, noTup_agg, cells_agg, ez_P, cells_agg, Tryd.f18, hlw, hmk]
    refine WX.mono (key _ _ 3 (fun h => by omega) (fun _ => ?_) ?_ (by decide) ?_ ?_ ?_ ?_) ?_
    · simp only [T.get_set, Nat.reduceEqDiff, if_true, if_false] <;> rfl
    · simp only [mk_get, nb_get, nb_next, st0_next, Nat.reduceAdd, Nat.reduceEqDiff, if_true, if_false] <;> rfl
    · simp only [T.get_set, Nat.reduceEqDiff, if_true, if_false] <;> rfl
    · simp only [T.get_set, Nat.reduceEqDiff, if_true, if_false]
    · simp only [T.get_set, Nat.reduceEqDiff, if_true, if_false, h0]
    · simp only [T.get_set, Nat.reduceEqDiff, if_true, if_false] <;> rfl
    · rintro r ⟨t', S', rfl, _, T5⟩
      have T5 := T5 h0
      simp (maxSteps := 2000000) (disch := omega) only [W_region, W_seq, seqQ_normal2, seqQ_exit2, blockW_exit2, WL_cons, execL_val2, execL_enter2, putL_some2, wantedA, exec1, evalO, T.get_set, callA, mapO, ofOpt, ofConst, Nat.reduceLT, if_true, true_and, List.nil_append, List.append_nil, T5, hf1]
      refine join_sl (ws := []) (by decide) (by decide) ?_
      unfold strS
      simp (maxSteps := 2000000) (disch := omega) only [W_ret, seqQ_normal2, WL_nil2, WL_cons, execL_val2, putL_some2, retL_ret2, wantedA, exec1, evalO, T.get_set, ofOpt, finW_ret, giveW, resultsA, tupA, Nat.reduceLT, Nat.reduceEqDiff, if_true, if_false, true_and]
      exact fin _ _ (by rw [hnil]; rfl)
  · have hmk := fun S => make_S S vs.length (by omega) (by omega)
    have hll : (Lib.join (wsTo (List.replicate vs.length t) vs vs.length) [32]).length ≤ 1000000000 := by rw [← lineTo_join]; have := line_len (ts := List.replicate vs.length t) hok vs.length; omega
    unfold declY
    simp (maxSteps := 2000000) (disch := omega) only [W_region, W_seq, W_block, W_loop, seqQ_normal2, WL_nil2, WL_cons, execL_val2, putL_some2, wantedA, exec1, evalO, initT, T.get_set, T.get_leaf, callA, ofOpt, ofOptS, ofConst, Nat.reduceLT, Nat.reduceAdd, Nat.reduceEqDiff, if_true, if_false, true_and, Option.getD_some, nb_next, st0_next, Nat.zero_add, noTup_agg, cells_agg, ez_P, cells_agg, Tryd.f18, hlw, hmk]
    refine WX.mono (key _ _ 3 (fun h => ⟨?_, ?_⟩) (fun h => absurd h h0) ?_ (by decide) ?_ ?_ ?_ ?_) ?_
    · rw [cells_none]; rfl
    · simp only [T.get_set, Nat.reduceEqDiff, if_true, if_false] <;> rfl
    · simp only [nb_get, nb_next, st0_next, Nat.reduceAdd, Nat.reduceEqDiff, if_true, if_false] <;> rfl
    · simp only [T.get_set, Nat.reduceEqDiff, if_true, if_false] <;> rfl
    · simp only [T.get_set, Nat.reduceEqDiff, if_true, if_false]
    · simp only [T.get_set, Nat.reduceEqDiff, if_true, if_false]
    · simp only [T.get_set, Nat.reduceEqDiff, if_true, if_false] <;> rfl
    · rintro r ⟨t', S', rfl, hm, _⟩
      obtain ⟨hm, T5⟩ := hm (by omega)
      rw [cells_full] at hm
      simp (maxSteps := 2000000) (disch := omega) only [W_region, W_seq, seqQ_normal2, seqQ_exit2, blockW_exit2, WL_cons, execL_val2, execL_enter2, putL_some2, wantedA, exec1, evalO, T.get_set, callA, mapO, ofOpt, ofConst, Nat.reduceLT, if_true, true_and, List.nil_append, List.append_nil, T5, hf1]
      refine join_bs hm (wsTo_len _ _ _) (by omega) hll ?_
      unfold strS
      simp (maxSteps := 2000000) (disch := omega) only [W_ret, seqQ_normal2, WL_nil2, WL_cons, execL_val2, putL_some2, retL_ret2, wantedA, exec1, evalO, T.get_set, ofOpt, finW_ret, giveW, resultsA, tupA, Nat.reduceLT, Nat.reduceEqDiff, if_true, if_false, true_and]
      exact fin _ _ (by rw [wsP_is])
theorem port_u {t : Bool} {w : AV} {vs : List Int} {S : St} {Q : R → Prop} (hb : vs.length ≤ 1000) (hw : isInts w vs) (hok : okInts vs) (h : Q (.ret (strS (Lib.join (vs.map fun x => wordF x t) [32])) S)) : WC EZ 18 [declY t, w] S Q :=
  callZ (port_k t (clean w) vs hb (ints_cl hw).2 hok) (by kernel_rfl) (by show (freeV (declY t) && (freeV w && true)) = true; rw [(ints_cl hw).1]; rfl) rfl fun a _ _ hs => by
    have := hs (declY t) t (clean w) vs rfl ⟨_, _, _, _, _, rfl⟩ (ints_cl hw).2 hok hb
    subst this
    exact h
end Go.Ax
noncomputable section
namespace Go.Ax
open Go.RowKit Go.Proofs
set_option linter.unusedVariables false
set_option linter.unusedSimpArgs false
set_option maxRecDepth 100000
theorem minC_eq (F : Operand → Value) (dst : Option Tmp) (k : Tmp) (c : Int) (ty : TypeId) (pos : String) (af : Array Edge) (gd : Option (Nat × Bool)) : execOp F { dst := dst, op := .call { callee := .builtin .min, args := #[.tmp k, .const (.int .i64 c)], argTypes := #[3, 3] }, type := ty, pos := pos, after := af, guard := gd } = execOp (maxG (F (.tmp k)) (F (.const (.int .i64 c)))) { dst := none, op := .call { callee := .builtin .min, args := #[.tmp 0, .tmp 1], argTypes := #[3, 3] }, type := ty, pos := "", after := #[], guard := none } := by kernel_rfl
theorem minC_val (a b : Int) (ty : TypeId) : pureN Tryd.prog 4000 (execOp (maxG (.int .i64 a) (.int .i64 b)) { dst := none, op := .call { callee := .builtin .min, args := #[.tmp 0, .tmp 1], argTypes := #[3, 3] }, type := ty, pos := "", after := #[], guard := none }) = some (.int .i64 (if b < a then b else a)) := by kernel_rfl
def minCX (P : Program) (G : Gl) (f : T AV) (S : St) (o : Oper) : OR := ground P G f S o
def minCO (r : OR) (S : St) (x : Option AV) (b : Int) : OR := match x with
  | some (.v (.int .i64 a)) => .val (.v (.int .i64 (if b < a then b else a))) S
  | _ => r
theorem minCO_i (r : OR) (S : St) (a b : Int) : minCO r S (some (.v (.int .i64 a))) b = .val (.v (.int .i64 (if b < a then b else a))) S := _root_.id rfl
theorem ground_minC (f : T AV) (S : St) (dst : Option Tmp) (k : Tmp) (c : Int) (ty : TypeId) (pos : String) (af : Array Edge) (gd : Option (Nat × Bool)) :
    ground Tryd.prog gZ f S { dst := dst, op := .call { callee := .builtin .min, args := #[.tmp k, .const (.int .i64 c)], argTypes := #[3, 3] }, type := ty, pos := pos, after := af, guard := gd } = minCO (minCX Tryd.prog gZ f S { dst := dst, op := .call { callee := .builtin .min, args := #[.tmp k, .const (.int .i64 c)], argTypes := #[3, 3] }, type := ty, pos := pos, after := af, guard := gd }) S (f.get k) c := by
  unfold minCO
  split
  · rename_i a h1
    have hg1 : groundO gZ f (.tmp k) = some (.int .i64 a) := by unfold groundO; simp only [evalO, h1]; rfl
    have hg2 : groundO gZ f (.const (.int .i64 c)) = some (.int .i64 c) := rfl
    unfold ground
    have hall : ((Op.call { callee := .builtin .min, args := #[.tmp k, .const (.int .i64 c)], argTypes := #[3, 3] } : Op).operands.toList.all fun x => (groundO gZ f x).isSome) = true := by
      show ([Operand.tmp k, Operand.const (.int .i64 c)].all fun x => (groundO gZ f x).isSome) = true
      simp only [List.all_cons, List.all_nil, hg1, hg2, Option.isSome_some, Bool.and_self]
    refine (if_pos hall).trans ?_
    rw [minC_eq]
    have e1 : (groundO gZ f (.tmp k)).getD undef = .int .i64 a := by rw [hg1]; rfl
    have e2 : (groundO gZ f (.const (.int .i64 c))).getD undef = .int .i64 c := by rw [hg2]; rfl
    simp only [e1, e2, minC_val]
    rfl
  · rfl
theorem min_20 (a : Nat) : (if (20 : Int) < (a : Int) then (20 : Int) else (a : Int)) = ((min a 20 : Nat) : Int) := by
  by_cases h : 20 < a
  · rw [if_pos (by omega)]; omega
  · rw [if_neg (by omega)]; omega
/-- A row of numbers that lies somewhere. -/
def isIntsL (v : AV) (vs : List Int) : Prop := (v = .nils ∧ vs = []) ∨ ∃ tok off, v = .sl tok off 1 (vs.map i64A)
theorem isIntsL.to {v : AV} {vs : List Int} (h : isIntsL v vs) : isInts v vs := h.elim .inl fun h => .inr (.inl h)
theorem cut_ints {w : AV} {vs : List Int} (h : isIntsL w vs) : ∃ r, oSlice Tryd.prog 42 w none (some (.v (.int .i64 ((min vs.length 20 : Nat) : Int)))) = some r ∧ isInts r (vs.take 20) := by
  have hb : ∀ d, boundA (some (.v (.int .i64 ((min vs.length 20 : Nat) : Int)))) d = some (min vs.length 20) := fun d => by
    unfold boundA
    simp only [Int.natCast_nonneg, if_true, Int.toNat_natCast]
  have hn : boundA none 0 = some 0 := rfl
  rcases h with ⟨rfl, rfl⟩ | ⟨tok, off, rfl⟩
  · exact ⟨.nils, by kernel_rfl, .inl ⟨rfl, rfl⟩⟩
  · have key : oSlice Tryd.prog 42 (.sl tok off 1 (vs.map i64A)) none (some (.v (.int .i64 ((min vs.length 20 : Nat) : Int)))) = if (0 == min vs.length 20) then some (.sl 0 0 1 []) else if (min vs.length 20 == (vs.map i64A).length) then some (.sl tok (off + 0 * 1) 1 ((vs.map i64A).drop 0)) else some (.sl 0 0 1 (((vs.map i64A).drop 0).take (min vs.length 20 - 0))) := by
      unfold oSlice
      rw [yeI]
      simp only [yzeI, hb, hn]
      have h1 : decide (0 ≤ min vs.length 20) = true := by simp
      have h2 : decide (min vs.length 20 ≤ (vs.map i64A).length) = true := by rw [decide_eq_true_eq, List.length_map]; omega
      rw [h1, h2]
      rfl
    by_cases h0 : min vs.length 20 = 0
    · refine ⟨.sl 0 0 1 [], by rw [key, h0]; rfl, .inr (.inl ⟨0, 0, ?_⟩)⟩
      have : vs = [] := List.eq_nil_of_length_eq_zero (by omega)
      rw [this]; rfl
    · have e0 : (0 == min vs.length 20) = false := by rw [beq_eq_false_iff_ne]; exact Ne.symm h0
      by_cases h1 : vs.length ≤ 20
      · have e1 : (min vs.length 20 == (vs.map i64A).length) = true := by rw [beq_iff_eq, List.length_map]; omega
        refine ⟨.sl tok (off + 0 * 1) 1 ((vs.map i64A).drop 0), by rw [key, e0, e1]; rfl, .inr (.inl ⟨tok, off + 0 * 1, ?_⟩)⟩
        rw [List.drop_zero, List.take_of_length_le h1]
      · have e1 : (min vs.length 20 == (vs.map i64A).length) = false := by rw [beq_eq_false_iff_ne, List.length_map]; omega
        refine ⟨.sl 0 0 1 (((vs.map i64A).drop 0).take (min vs.length 20 - 0)), by rw [key, e0, e1]; rfl, .inr (.inl ⟨0, 0, ?_⟩)⟩
        rw [List.drop_zero, ← List.map_take, show min vs.length 20 - 0 = 20 by omega]
theorem yb54 (x : Bool) : oBuild Tryd.prog 54 [(0, .v (.bool x))] = some (.agg [.v (.bool x), .v (.bool false)]) := by kernel_rfl
theorem yb56 (l : List UInt8) (x y : Bool) : oBuild Tryd.prog 56 [(0, .v (.string ⟨⟨l⟩⟩)), (2, .agg [.v (.bool x), .v (.bool y)])] = some (.agg [.v (.string ⟨⟨l⟩⟩), .v (.int .i64 0), .v (.bool x), .v (.bool y), .v (.string ⟨⟨[]⟩⟩), .v (.bool false)]) := by kernel_rfl
theorem lineF_1 (t : Bool) (x : Int) : lineF [t] [x] = wordF x t := by
  unfold lineF
  rw [if_neg (by simp)]
  show (lineTo [t] [x] 0 ++ if 0 = 0 then [] else [32]) ++ wordF ([x].getD 0 0) ([t].getD 0 false) = _
  rfl
theorem line_1 {t : Bool} {x : Int} {S : St} {Q : R → Prop} (h0 : -9223372036854775808 ≤ x) (h1 : x ≤ 9223372036854775807) (h : Q (.ret (strS (wordF x t)) S)) : WC EZ 16 [.sl 1 0 6 [declY t], .sl 1 0 1 [i64A x]] S Q := by
  have hk : okInts [x] := fun y hy => by rw [List.mem_singleton.1 hy]; exact ⟨h0, h1⟩
  refine callZ (line_k (.sl 0 0 6 [declY t]) (.sl 0 0 1 [i64A x]) [t] [x] (.inr ⟨0, 0, _, rfl, ⟨_, _, _, _, _, rfl⟩, trivial⟩) (.inr (.inl ⟨0, 0, rfl⟩)) hk (by simp)) (by kernel_rfl) rfl rfl fun a _ _ hs => ?_
  have := hs (.sl 0 0 6 [declY t]) [t] (.sl 0 0 1 [i64A x]) [x] rfl (.inr ⟨0, 0, _, rfl, ⟨_, _, _, _, _, rfl⟩, trivial⟩) (.inr (.inl ⟨0, 0, rfl⟩)) hk (by simp)
  subst this
  rw [lineF_1]
  exact h
def pqLB : Code := match Tryd.f5.body with
  | some (.seq _ (.seq _ (.seq _ (.seq _ (.seq _ (.seq (.seq _ (.block _ (.loop c))) _)))))) => c
  | _ => .skip
theorem pqLB_is : (match pqLB with | .skip => false | _ => true) = true := by kernel_rfl
theorem fnz_16 : ∃ fn, EZ.F 16 = some fn := Option.isSome_iff_exists.1 (by kernel_rfl)
theorem fnz_18 : ∃ fn, EZ.F 18 = some fn := Option.isSome_iff_exists.1 (by kernel_rfl)
theorem pq_lp {t1 : Bool} {w : AV} {vs : List Int} (hb : vs.length ≤ 20) (hw : isInts w vs) (hok : okInts vs) : ∀ (n j tk : Nat) (t : T AV) (S : St), j + n = vs.length → RowO 1 S tk ((vs.take j).map fun x => strS (wordF x t1)) → 3 ≤ S.next → S.mem.get 2 = some (.box (declY t1).cells) → t.get 0 = some (.v (.bool t1)) → t.get 1 = some w → t.get 5 = some (.ptr 2 0) → t.get 6 = some (.sl tk 0 1 ((vs.take j).map fun x => strS (wordF x t1))) → t.get 19 = some w → t.get 20 = some (.v (.int .i64 ((vs.length : Nat) : Int))) → t.get 21 = some (.v (.int .i64 ((j : Nat) : Int))) →
    WX EZ 42 (.loop pqLB) ⟨t, []⟩ S (fun r => ∃ t' S' tk, r = .out (.exit 0) ⟨t', []⟩ S' ∧ t'.get 6 = some (.sl tk 0 1 (vs.map fun x => strS (wordF x t1))) ∧ t'.get 0 = some (.v (.bool t1)) ∧ t'.get 1 = some w)
  | 0, j, tk, t, S, hj, RO, hn, m2, T0, T1, T5, T6, T19, T20, T21 => by
    refine WX_loop (W_sound ?_)
    have hlt : decide ((j : Int) < (vs.length : Int)) = false := by rw [decide_eq_false_iff_not]; omega
    have hjl : vs.take j = vs := List.take_of_length_le (by omega)
    rw [hjl] at T6
    simp (maxSteps := 2000000) (disch := omega) only [thenW_exit, W_skip, W_region, W_seq, W_cond, W_block, W_exit, seqQ_normal2, seqQ_exit2, WL_nil2, WL_cons, execL_val2, putL_some2, condW_f2, wantedA, exec1, evalO, T.get_set, ofOpt, neNil3, fb_lss, Nat.reduceLT, Nat.reduceEqDiff, if_true, if_false, true_and, Bool.false_eq_true, ez_P, Tryd.f5, strS, neNil3, pqLB, T19, T20, T21, hlt]
    exact ⟨_, _, tk, rfl, by simp only [T.get_set, Nat.reduceEqDiff, if_false, T6] <;> rfl, by simp only [T.get_set, Nat.reduceEqDiff, if_false, T0], by simp only [T.get_set, Nat.reduceEqDiff, if_false, T1]⟩
  | n + 1, j, tk, t, S, hj, RO, hn, m2, T0, T1, T5, T6, T19, T20, T21 => by
    refine WX_loop (W_sound ?_)
    have hjl : j < vs.length := by omega
    have hlt : decide ((j : Int) < (vs.length : Int)) = true := by rw [decide_eq_true_eq]; omega
    have hws := wrapS j (by omega)
    have hx := ints_idx hw j hjl
    obtain ⟨ok1, ok2⟩ := ok_get hok j
    obtain ⟨fn1, hf1⟩ := fnz_16
    obtain ⟨bytes, hrt⟩ := ytS
    have htk : tk ≠ 2 := fun e => by
      rcases RO with h | ⟨_, _, h⟩
      · omega
      · rw [e, m2] at h; cases h
    obtain ⟨S2, happ, ro2, n2, k2⟩ := push_row (E := EZ) hrt rfl rfl RO (by omega) (strS (wordF (vs.getD j 0) t1)) rfl (by rw [List.length_map, List.length_take]; omega)
    have hmm : (vs.take j).map (fun x => strS (wordF x t1)) ++ [strS (wordF (vs.getD j 0) t1)] = (vs.take (j + 1)).map fun x => strS (wordF x t1) := by
      rw [List.take_succ_eq_append_getElem hjl, List.map_append, gd_in _ _ _ hjl]; rfl
    rw [hmm] at happ ro2
    have m2' : S.mem.get 2 = some (.box [.v (.string ⟨⟨[121]⟩⟩), .v (.int .i64 0), .v (.bool t1), .v (.bool false), .v (.string ⟨⟨[]⟩⟩), .v (.bool false)]) := m2
    have fin : ∀ (t' : T AV), t'.get 0 = some (.v (.bool t1)) → t'.get 1 = some w → t'.get 5 = some (.ptr 2 0) → t'.get 6 = some (.sl S.next 0 1 ((vs.take (j + 1)).map fun x => strS (wordF x t1))) → t'.get 19 = some w → t'.get 20 = some (.v (.int .i64 ((vs.length : Nat) : Int))) → t'.get 21 = some (.v (.int .i64 ((j + 1 : Nat) : Int))) → WX EZ 42 (.loop pqLB) ⟨t', []⟩ S2 (fun r => ∃ t' S' tk, r = .out (.exit 0) ⟨t', []⟩ S' ∧ t'.get 6 = some (.sl tk 0 1 (vs.map fun x => strS (wordF x t1))) ∧ t'.get 0 = some (.v (.bool t1)) ∧ t'.get 1 = some w) := fun t' => pq_lp hb hw hok n (j + 1) S.next t' S2 (by omega) ro2 (by omega) (by rw [k2 2 (Ne.symm htk) (by omega)]; exact m2)
    generalize (vs.take (j + 1)).map (fun x => strS (wordF x t1)) = nw at *
    generalize (vs.take j).map (fun x => strS (wordF x t1)) = ow at *
    simp only [strS] at happ
    simp only [i64A] at hx
    simp (maxSteps := 2000000) (disch := omega) only [thenW_exit, W_skip, W_region, W_seq, W_cond, W_block, W_exit, seqQ_normal2, seqQ_exit2, WL_nil2, WL_cons, execL_val2, execL_enter2, putL_some2, condW_t2, wantedA, exec1, evalO, T.get_set, callA, mapO, ofOpt, partsA, neNil3, fb_lss, Nat.reduceLT, Nat.reduceAdd, Nat.reduceEqDiff, if_true, if_false, true_and, List.nil_append, List.append_nil, Bool.false_eq_true, clN_box, List.length_cons, List.length_nil, Nat.zero_add, Nat.reduceLeDiff, List.drop_zero, List.take_succ_cons, List.take_zero, ez_P, Tryd.f5, strS, neNil3, yrD_1, yrI_1, ylE, yle2, clN_box, pqLB, T5, T6, T19, T20, T21, hlt, hx, m2', hf1]
    refine line_1 ok1 ok2 ?_
    unfold strS
    simp (maxSteps := 2000000) (disch := omega) only [thenW_normal, W_region, seqQ_normal2, blockW_normal2, WL_nil2, WL_cons, execL_val2, putL_some2, retL_ret2, wantedA, exec1, evalO, T.get_set, callA, ofOpt, ofOptS, ofConst, partsA, neNil3, fb_add, Nat.reduceLT, Nat.reduceEqDiff, if_true, if_false, true_and, Bool.false_eq_true, ez_P, neNil3, yrS_1, T21, hws, happ]
    refine fin _ ?_ ?_ ?_ ?_ ?_ ?_ ?_
    all_goals simp only [T.get_set, Nat.reduceEqDiff, if_true, if_false, T0, T1, T5, T19, T20]
theorem ports_w (hF : FeedKn) (t : Bool) (w : AV) (vs : List Int) (hw : isIntsL w vs) (hok : okInts vs) (S : St) (hS : S = St0) : WC EZ 5 [.v (.bool t), w] S (fun r => ∃ S', r = .ret (.v (.bool true)) S') := by
  refine WC_fn Tryd.f5 (by kernel_rfl) (by kernel_rfl) (by kernel_rfl) (show (_ : Nat) ≤ _ from by show (_ : Nat) ≤ _; simp [Tryd.f5]) ?_
  obtain ⟨fn1, hf1⟩ := fnz_7
  obtain ⟨fn2, hf2⟩ := fnz_18
  obtain ⟨fn3, hf3⟩ := fnz_17
  subst hS
  obtain ⟨r, hos, hr⟩ := cut_ints hw
  have hlw := fun S => ints_len hw.to S
  have hmin := min_20 vs.length
  have hlr := fun S => ints_len hr S
  have htl : (vs.take 20).length = min vs.length 20 := by rw [List.length_take]; omega
  have hok' : okInts (vs.take 20) := fun x hx => hok x (List.mem_of_mem_take hx)
  have lp := fun tt S => pq_lp (t1 := t) (w := r) (vs := vs.take 20) (by omega) hr hok' (vs.take 20).length 0 1 tt S (by omega) (.inl rfl)
  unfold pqLB at lp
  simp only [Tryd.f5, List.take_zero, List.map_nil] at lp
  have hss : ∀ (x : Bool) (c : AV), (T.leaf : T AV) = T.leaf := fun _ _ => rfl
  rw [htl] at lp hlr
  rcases hw with ⟨hw1, hv⟩ | ⟨tok, off, hw1⟩
  · clear hv
    subst hw1
    simp (maxSteps := 2000000) (disch := omega) only [W_region, W_seq, seqQ_normal2, WL_nil2, WL_cons, execL_val2, execL_enter2, putL_some2, wantedA, exec1, evalO, initT, callA, mapO, ofOpt, ofConst, Nat.reduceLT, true_and, Option.getD_some, List.append_nil, Nat.zero_add, Tryd.f5, hf1, initT]
    refine aw_u hF ?_
    simp (maxSteps := 2000000) (disch := omega) only [W_skip, W_region, W_seq, W_cond, W_block, W_loop, W_ret, seqQ_normal2, seqQ_ret2, WL_nil2, WL_cons, execL_val2, execL_skip2, putL_none2, putL_some2, retL_ret2, condW_f2, wantedA, exec1, evalO, T.get_set, T.get_leaf, callA, mapO, ofOpt, ofOptS, ofConst, partsA, finW_ret, giveW, resultsA, tupA, notO_bool, Nat.reduceLT, Nat.reduceAdd, Nat.reduceEqDiff, if_true, if_false, true_and, List.nil_append, List.append_nil, Bool.not_true, Option.toList, List.head?_cons, List.head?_nil, nb_get, st0_get, st0_next, vstB_agg, List.length_cons, List.length_nil, Nat.zero_add, Nat.reduceLeDiff, List.drop_succ_cons, List.drop_nil, List.take_zero, and_self, ez_P, ez_G, gnot, strS, yrS_0, ybE_02, yaE, ysE, hlw, ground_minC, minCO_i, hmin, hos, hlr]
    refine WX.mono (lp _ _ ?_ ?_ ?_ ?_ ?_ ?_ ?_ ?_ ?_) ?_
    · simp only [to_next, nb_next, st0_next]; omega
    · simp only [to_get, nb_get, st0_next, if_true]; rfl
    · simp only [T.get_set, T.get_leaf, Nat.reduceEqDiff, if_true, if_false] <;> rfl
    · simp only [T.get_set, T.get_leaf, Nat.reduceEqDiff, if_true, if_false] <;> rfl
    · simp only [T.get_set, T.get_leaf, Nat.reduceEqDiff, if_true, if_false] <;> rfl
    · simp only [T.get_set, T.get_leaf, Nat.reduceEqDiff, if_true, if_false] <;> rfl
    · simp only [T.get_set, T.get_leaf, Nat.reduceEqDiff, if_true, if_false] <;> rfl
    · simp only [T.get_set, T.get_leaf, Nat.reduceEqDiff, if_true, if_false] <;> rfl
    · simp only [T.get_set, T.get_leaf, Nat.reduceEqDiff, if_true, if_false] <;> rfl
    · rintro _ ⟨t', S', tk, rfl, T6, T0, T1⟩
      have hwd : ((vs.take 20).map fun x => strS (wordF x t)) = ((vs.take 20).map fun x => wordF x t).map strS := by rw [List.map_map]; rfl
      rw [hwd] at T6
      generalize hws : ((vs.take 20).map fun x => wordF x t) = ws at T6
      generalize hwm : ws.map strS = wm at T6
      have hjl : (Lib.join ws [32]).length ≤ 1000000000 := by
        rw [← hws, ← wsP_is, ← lineTo_join]
        have := line_len (ts := List.replicate (vs.take 20).length t) hok' (vs.take 20).length
        omega
      simp (maxSteps := 2000000) (disch := omega) only [W_region, W_seq, seqQ_normal2, seqQ_exit2, blockW_exit2, WL_cons, execL_val2, execL_enter2, putL_some2, wantedA, exec1, evalO, T.get_set, callA, mapO, ofOpt, ofConst, partsA, Nat.reduceLT, Nat.reduceEqDiff, if_true, if_false, true_and, List.nil_append, List.append_nil, ez_P, yb54, yb56, T0, T1, hf2, yb54, yb56]
      refine port_u (t := t) (vs := vs.take 20) (by rw [List.length_take]; omega) hr hok' ?_
      rw [hws]
      unfold strS
      simp (maxSteps := 2000000) (disch := omega) only [WL_cons, execL_val2, execL_enter2, putL_some2, retL_ret2, wantedA, exec1, evalO, T.get_set, callA, mapO, ofOpt, ofConst, Nat.reduceLT, Nat.reduceEqDiff, if_true, if_false, true_and, List.nil_append, List.append_nil, T6, hf3]
      rw [← hwm]
      refine join_sl (s := [32]) (ws := ws) (by rw [← hws, List.length_map, List.length_take]; omega) hjl ?_
      unfold strS
      simp (maxSteps := 2000000) (disch := omega) only [W_ret, seqQ_normal2, WL_nil2, WL_cons, execL_val2, putL_some2, retL_ret2, wantedA, exec1, evalO, T.get_set, ofOpt, finW_ret, giveW, resultsA, tupA, fb_eqS, neNil9, Nat.reduceLT, Nat.reduceEqDiff, if_true, if_false, true_and, Bool.false_eq_true, decide_true, ez_P, neNil9, fb_eqS]
      exact ⟨_, rfl⟩
  · generalize vs.map i64A = es at hw1
    subst hw1
    simp (maxSteps := 2000000) (disch := omega) only [W_region, W_seq, seqQ_normal2, WL_nil2, WL_cons, execL_val2, execL_enter2, putL_some2, wantedA, exec1, evalO, initT, callA, mapO, ofOpt, ofConst, Nat.reduceLT, true_and, Option.getD_some, List.append_nil, Nat.zero_add, Tryd.f5, hf1, initT]
    refine aw_u hF ?_
    simp (maxSteps := 2000000) (disch := omega) only [W_skip, W_region, W_seq, W_cond, W_block, W_loop, W_ret, seqQ_normal2, seqQ_ret2, WL_nil2, WL_cons, execL_val2, execL_skip2, putL_none2, putL_some2, retL_ret2, condW_f2, wantedA, exec1, evalO, T.get_set, T.get_leaf, callA, mapO, ofOpt, ofOptS, ofConst, partsA, finW_ret, giveW, resultsA, tupA, notO_bool, Nat.reduceLT, Nat.reduceAdd, Nat.reduceEqDiff, if_true, if_false, true_and, List.nil_append, List.append_nil, Bool.not_true, Option.toList, List.head?_cons, List.head?_nil, nb_get, st0_get, st0_next, vstB_agg, List.length_cons, List.length_nil, Nat.zero_add, Nat.reduceLeDiff, List.drop_succ_cons, List.drop_nil, List.take_zero, and_self, ez_P, ez_G, gnot, strS, yrS_0, ybE_02, yaE, ysE, hlw, ground_minC, minCO_i, hmin, hos, hlr]
    refine WX.mono (lp _ _ ?_ ?_ ?_ ?_ ?_ ?_ ?_ ?_ ?_) ?_
    · simp only [to_next, nb_next, st0_next]; omega
    · simp only [to_get, nb_get, st0_next, if_true]; rfl
    · simp only [T.get_set, T.get_leaf, Nat.reduceEqDiff, if_true, if_false] <;> rfl
    · simp only [T.get_set, T.get_leaf, Nat.reduceEqDiff, if_true, if_false] <;> rfl
    · simp only [T.get_set, T.get_leaf, Nat.reduceEqDiff, if_true, if_false] <;> rfl
    · simp only [T.get_set, T.get_leaf, Nat.reduceEqDiff, if_true, if_false] <;> rfl
    · simp only [T.get_set, T.get_leaf, Nat.reduceEqDiff, if_true, if_false] <;> rfl
    · simp only [T.get_set, T.get_leaf, Nat.reduceEqDiff, if_true, if_false] <;> rfl
    · simp only [T.get_set, T.get_leaf, Nat.reduceEqDiff, if_true, if_false] <;> rfl
    · rintro _ ⟨t', S', tk, rfl, T6, T0, T1⟩
      have hwd : ((vs.take 20).map fun x => strS (wordF x t)) = ((vs.take 20).map fun x => wordF x t).map strS := by rw [List.map_map]; rfl
      rw [hwd] at T6
      generalize hws : ((vs.take 20).map fun x => wordF x t) = ws at T6
      generalize hwm : ws.map strS = wm at T6
      have hjl : (Lib.join ws [32]).length ≤ 1000000000 := by
        rw [← hws, ← wsP_is, ← lineTo_join]
        have := line_len (ts := List.replicate (vs.take 20).length t) hok' (vs.take 20).length
        omega
      simp (maxSteps := 2000000) (disch := omega) only [W_region, W_seq, seqQ_normal2, seqQ_exit2, blockW_exit2, WL_cons, execL_val2, execL_enter2, putL_some2, wantedA, exec1, evalO, T.get_set, callA, mapO, ofOpt, ofConst, partsA, Nat.reduceLT, Nat.reduceEqDiff, if_true, if_false, true_and, List.nil_append, List.append_nil, ez_P, yb54, yb56, T0, T1, hf2, yb54, yb56]
      refine port_u (t := t) (vs := vs.take 20) (by rw [List.length_take]; omega) hr hok' ?_
      rw [hws]
      unfold strS
      simp (maxSteps := 2000000) (disch := omega) only [WL_cons, execL_val2, execL_enter2, putL_some2, retL_ret2, wantedA, exec1, evalO, T.get_set, callA, mapO, ofOpt, ofConst, Nat.reduceLT, Nat.reduceEqDiff, if_true, if_false, true_and, List.nil_append, List.append_nil, T6, hf3]
      rw [← hwm]
      refine join_sl (s := [32]) (ws := ws) (by rw [← hws, List.length_map, List.length_take]; omega) hjl ?_
      unfold strS
      simp (maxSteps := 2000000) (disch := omega) only [W_ret, seqQ_normal2, WL_nil2, WL_cons, execL_val2, putL_some2, retL_ret2, wantedA, exec1, evalO, T.get_set, ofOpt, finW_ret, giveW, resultsA, tupA, fb_eqS, neNil9, Nat.reduceLT, Nat.reduceEqDiff, if_true, if_false, true_and, Bool.false_eq_true, decide_true, ez_P, neNil9, fb_eqS]
      exact ⟨_, rfl⟩
/-- A row of numbers, as it comes in. -/
def IntsIn (W : World) (v : Value) : Prop := ∃ (vs : List Int) (na : AV), isIntsL na vs ∧ okInts vs ∧ VR (GhW W) W na v
theorem un42 : Tryd.prog.underlying 42 = some (.slice 2) := by kernel_rfl
theorem un2 : Tryd.prog.underlying 2 = some (.int .i64) := by kernel_rfl
theorem ce2 : Tryd.prog.cellsOf 2 = 1 := by kernel_rfl
theorem ints_in {H : Type} {enc : TypeId × Value → H} {W : World} {base fuel : Nat} {a0 : Option Addr} {len cap : Nat} {x : DataW H × List MemPlace} (hok : Value.okWide Tryd.prog W .any base 42 (.slice a0 len cap))
    (hf : DataW.trod enc Tryd.prog W 0 (fun _ => true) true fuel 42 (Value.slice a0 len cap).cells.toList = some x) : IntsIn W (.slice a0 len cap) := by
  rcases Go.ChangeShapes.open_ints un42 un2 ce2 hf with ⟨hcs, hx⟩ | ⟨a, len', cap', zs, hcs, _, hl, hm, hzl, hx, hcell, hwf⟩
  · simp [Value.cells] at hcs
    obtain ⟨rfl, rfl, rfl⟩ := hcs
    exact ⟨[], .nils, .inl ⟨rfl, rfl⟩, (fun x hx => by cases hx), .nils⟩
  · simp [Value.cells] at hcs
    obtain ⟨rfl, rfl, rfl⟩ := hcs
    simp only [Value.okWide, un42, Cell.okWide, Cell.ok] at hok
    obtain ⟨b, o, arr, T, fr, rfl, ha, ho⟩ := has_off hok.2.2
    simp only [if_true] at hzl
    have hc : ∀ i, i < cap → W.cell? ⟨b, o + i, none⟩ = some (.int .i64 (zs.getD i 0)) := fun i hi => by rw [← Go.WideShapes.add_plain]; exact hcell i (by omega)
    have hsz : o + cap ≤ arr.size := by
      by_cases h0 : cap = 0
      · omega
      · have := cell_bound ha (hc (cap - 1) (by omega)); omega
    refine ⟨(List.range len).map fun i => zs.getD i 0, .sl 0 0 1 ((List.range len).map fun i => .v (.int .i64 (zs.getD i 0))), .inr ⟨0, 0, ?_⟩, fun x hx => ?_, row_in ha hsz hl (fun i => .int .i64 (zs.getD i 0)) (fun _ => rfl) (fun i hi => hc i (by omega))⟩
    · rw [List.map_map]; rfl
    · obtain ⟨i, _, rfl⟩ := List.mem_map.1 hx
      have := Go.range_i64 hwf i
      rwa [← List.getD_eq_getElem?_getD] at this
theorem ports_any (b : Bool) (v1 : Value) (w : World) (h1 : IntsIn w v1) (hr : RngIn w) (hp : PowIn w) : Calls Tryd.prog 5 #[.bool b, v1] w fun x w' => x = .returned (.bool true) ∧ Below w.heap.size w w' := by
  obtain ⟨vs, na, hn, hok, hv⟩ := h1
  refine callsW_true (vs := [.bool b, v1]) (ports_w feed_kn b na vs hn hok St0 rfl) (by kernel_rfl) (gz_of hr hp) ⟨rfl, fun k hk h' => ?_⟩
  match k, hk with
  | 0, _ => exact .v (.bool b) rfl
  | 1, _ => exact hv
end Go.Ax
noncomputable section
namespace Go.Ax
open Go.RowKit Go.Proofs
set_option linter.unusedVariables false
set_option linter.unusedSimpArgs false
set_option maxRecDepth 100000
theorem okRow_ints : ∀ (ts : List Bool) (l : List Int), okRow ts l → okInts l
  | [], [], _ => fun x hx => by cases hx
  | t :: ts, v :: l, h => fun x hx => by
    rcases List.mem_cons.1 hx with rfl | hx
    · exact h.1
    · exact okRow_ints ts l h.2.2 x hx
  | [], _ :: _, h => h.elim
  | _ :: _, [], h => h.elim
theorem join_len (s : List UInt8) (c : Nat) : ∀ ls : List (List UInt8), (∀ l ∈ ls, l.length ≤ c) → (Lib.joinTail s ls).length ≤ ls.length * (s.length + c)
  | [], _ => by simp [Lib.joinTail]
  | l :: r, h => by
    have h1 := h l (List.mem_cons_self ..)
    have ih := join_len s c r fun x hx => h x (List.mem_cons_of_mem _ hx)
    unfold Lib.joinTail at ih ⊢
    rw [List.map_cons, List.flatten_cons, List.length_append, List.length_append, List.length_cons, Nat.add_mul]
    omega
theorem join_le (s : List UInt8) (c : Nat) (ls : List (List UInt8)) (h : ∀ l ∈ ls, l.length ≤ c) : (Lib.join ls s).length ≤ ls.length * (s.length + c) := by
  cases ls with
  | nil => simp [Lib.join_nil]
  | cons l r =>
    rw [Lib.join_cons, List.length_append, List.length_cons, Nat.add_mul]
    have h1 := h l (List.mem_cons_self ..)
    have h2 := join_len s c r fun x hx => h x (List.mem_cons_of_mem _ hx)
    omega
theorem lrow_u {bs : List Bool} {vs : List Int} {w : AV} {S : St} {Q : R → Prop} (h5 : bs.length ≤ 5) (hw : isInts w vs) (h : Q (.ret (.sl 0 0 1 ((rowOf bs vs bs.length).map i64A)) S)) : WC EZ 14 [nodA bs, w] S Q :=
  callZ (lrow_k (strS []) (i64A 0) .nils .nils .nils (clean w) bs vs (ints_cl hw).2 (by omega)) (by kernel_rfl) (by show (freeV (nodA bs) && (freeV w && true)) = true; rw [(nod_free bs).1, (ints_cl hw).1]; rfl) (by show [clean (nodA bs), clean w] = _; rw [(nod_free bs).2]; rfl) fun a _ _ hs => by
    have := hs (strS []) (i64A 0) (.sl 0 0 6 (bs.map declT)) .nils .nils .nils bs (clean w) vs rfl (isDcls_T bs) (ints_cl hw).2 (by omega)
    subst this
    exact h
theorem line_u {bs : List Bool} {vs : List Int} {w : AV} {S : St} {Q : R → Prop} (h5 : bs.length ≤ 5) (hw : isInts w vs) (hk : okInts vs) (h : Q (.ret (strS (lineF bs vs)) S)) : WC EZ 16 [.sl 0 0 6 (bs.map declT), w] S Q :=
  callZ (line_k (.sl 0 0 6 (bs.map declT)) (clean w) bs vs (isDcls_T bs) (ints_cl hw).2 hk (by omega)) (by kernel_rfl) (by show (freeL _ && (freeV w && true)) = true; rw [(decls_free bs).1, (ints_cl hw).1]; rfl) (by show [AV.sl 0 0 6 (cleanL _), clean w] = _; rw [(decls_free bs).2]) fun a _ _ hs => by
    have := hs (.sl 0 0 6 (bs.map declT)) bs (clean w) vs rfl (isDcls_T bs) (ints_cl hw).2 hk (by omega)
    subst this
    exact h
def rowQ (bs : List Bool) (r : List Int) : AV := .sl 0 0 1 ((rowOf bs r bs.length).map i64A)
def rowsOf (bs : List Bool) (raws : List (List Int)) : List (List Int) := raws.map fun r => rowOf bs r bs.length
theorem rows20_A (bs : List Bool) : ∀ raws : List (List Int), rows20 (raws.map (rowQ bs)) (rowsOf bs raws)
  | [] => trivial
  | r :: rs => ⟨.inr (.inl ⟨0, 0, rfl⟩), rows20_A bs rs⟩
theorem beqL_ints : ∀ l : List Int, beqL (l.map i64A) (l.map i64A) = true
  | [] => rfl
  | x :: r => by
    have h : beqA (i64A x) (i64A x) = true := by simp [i64A, beqA, eqS]
    show (beqA (i64A x) (i64A x) && beqL (r.map i64A) (r.map i64A)) = true
    rw [h, beqL_ints r]; rfl
theorem beqA_ints {w : AV} {vs : List Int} (h : isInts w vs) : beqA w w = true := by
  rcases h with ⟨rfl, rfl⟩ | ⟨tok, off, rfl⟩ | ⟨a, rfl, rfl⟩
  · rfl
  · simp [beqA, beqL_ints]
  · simp [beqA, eqS]
theorem fnz_14 : ∃ fn, EZ.F 14 = some fn := Option.isSome_iff_exists.1 (by kernel_rfl)
theorem fnz_15 : ∃ fn, EZ.F 15 = some fn := Option.isSome_iff_exists.1 (by kernel_rfl)
theorem fnz_16b : ∃ fn, EZ.F 16 = some fn := Option.isSome_iff_exists.1 (by kernel_rfl)
def fbLB : Code := match Tryd.f4.body with
  | some (.seq _ (.seq _ (.seq _ (.seq _ (.seq _ (.seq (.seq _ (.block _ (.loop c))) _)))))) => c
  | _ => .skip
theorem fbLB_is : (match fbLB with | .skip => false | _ => true) = true := by kernel_rfl
def fcLB : Code := match Tryd.f4.body with
  | some (.seq _ (.seq _ (.seq _ (.seq _ (.seq _ (.seq _ (.seq _ (.seq _ (.seq (.seq _ (.block _ (.loop c))) _))))))))) => c
  | _ => .skip
theorem fcLB_is : (match fcLB with | .skip => false | _ => true) = true := by kernel_rfl
theorem fc_lp {v m : AV} {rows : List (List Int)} (hv : isRows v rows) (hm : isRows m rows) (hr : ∀ r ∈ rows, r.length ≤ 100000) (hn : rows.length ≤ 200000) : ∀ (n j : Nat) (t : T AV) (S : St), j + n = rows.length → t.get 11 = some v → t.get 6 = some m → t.get 95 = some (.v (.int .i64 ((rows.length : Nat) : Int))) → t.get 96 = some (.v (.int .i64 ((j : Nat) : Int))) →
    WX EZ 110 (.loop fcLB) ⟨t, []⟩ S (fun r => ∃ t' S', r = .out (.exit 2) ⟨t', []⟩ S')
  | 0, j, t, S, hj, T6, T9, T52, T53 => by
    refine WX_loop (W_sound ?_)
    have hlt : decide ((j : Int) < (rows.length : Int)) = false := by rw [decide_eq_false_iff_not]; omega
    simp (maxSteps := 2000000) (disch := omega) only [thenW_exit, W_skip, W_region, W_drawn, W_seq, W_cond, W_block, W_exit, seqQ_normal2, seqQ_exit2, WL_nil2, WL_cons, execL_val2, putL_some2, condW_f2, wantedA, exec1, evalO, T.get_set, ofOpt, neNil3, fb_lss, Nat.reduceLT, Nat.reduceEqDiff, if_true, if_false, true_and, Bool.false_eq_true, ez_P, fcLB, Tryd.f4, neNil3, T52, T53, hlt]
    exact ⟨_, _, rfl⟩
  | n + 1, j, t, S, hj, T6, T9, T52, T53 => by
    refine WX_loop (W_sound ?_)
    have hjl : j < rows.length := by omega
    have hlt : decide ((j : Int) < (rows.length : Int)) = true := by rw [decide_eq_true_eq]; omega
    obtain ⟨e1, i1, g1⟩ := rows_idx hv j hjl
    obtain ⟨e2, i2, g2⟩ := rows_idx hm j hjl
    have hrl := hr _ (List.getElem_mem hjl)
    have hws := wrapS j (by omega)
    have h00 : ((0 : Int) != 0) = false := rfl
    obtain ⟨fn1, hf1⟩ := fnz_13
    generalize rows[j] = rj at *
    simp (maxSteps := 2000000) (disch := omega) only [thenW_exit, W_skip, W_region, W_drawn, W_seq, W_cond, W_block, W_exit, seqQ_normal2, seqQ_exit2, WL_nil2, WL_cons, execL_val2, putL_some2, condW_t2, wantedA, exec1, evalO, T.get_set, ofOpt, neNil3, fb_lss, Nat.reduceLT, Nat.reduceEqDiff, if_true, if_false, true_and, Bool.false_eq_true, ez_P, fcLB, Tryd.f4, neNil3, T52, T53, hlt]
    refine WD_by [(0, true), (1, true), (2, true), (3, true), (4, true), (5, true), (6, true), (7, true), (8, true), (9, true)] (by kernel_rfl) (by kernel_rfl) ?_
    simp (maxSteps := 2000000) (disch := omega) only [wantedA, exec1, evalO, T.get_set, callA, mapO, ofOpt, Nat.reduceLT, Nat.reduceEqDiff, if_true, if_false, true_and, List.getElem?_toArray, List.getElem?_cons_succ, List.getElem?_cons_zero, List.nil_append, List.append_nil, WR_op, execR_val2, execR_enter2, putRW_some2, rsOf, ez_P, yle42, T6, T9, i1, i2, hf1]
    refine same_u g1 g2 hrl ?_
    rw [if_pos rfl]
    simp (maxSteps := 2000000) (disch := omega) only [thenW_normal, thenW_ret, W_skip, W_region, W_seq, W_cond, W_ret, seqQ_normal2, seqQ_ret2, blockW_normal2, blockW_ret2, WL_nil2, WL_cons, execL_val2, putL_some2, condW_f2, wantedA, exec1, evalO, T.get_set, ofOpt, ofConst, neNil3, fb_add, fb_neqI, Nat.reduceLT, Nat.reduceEqDiff, if_true, if_false, true_and, Bool.false_eq_true, WR_nil2, WR_op, execR_val2, putRW_some2, retRW_ret2, fixQ_normal2, ez_P, i64A, neNil3, T53, h00, hws]
    refine WX.mono (fc_lp hv hm hr hn n (j + 1) _ _ (by omega) ?_ ?_ ?_ ?_) (fun r h => h)
    · simp only [T.get_set, Nat.reduceEqDiff, if_false, T6]
    · simp only [T.get_set, Nat.reduceEqDiff, if_false, T9]
    · simp only [T.get_set, Nat.reduceEqDiff, if_false, T52]
    · simp only [T.get_set, Nat.reduceEqDiff, if_true, if_false]
theorem fb_lp {bs : List Bool} (h5 : bs.length ≤ 5) {v : AV} {raws : List (List Int)} (hv : isRows v raws) (hok : ∀ r ∈ raws, okInts r) : ∀ (n j k6 k7 : Nat) (t : T AV) (S : St), j + n = min raws.length 10 → RowO 1 S k6 ((raws.take j).map (rowQ bs)) → RowO 1 S k7 (((rowsOf bs (raws.take j)).map (lineF bs)).map strS) → (2 ≤ k7 → k7 ≠ k6) → 2 ≤ S.next → t.get 1 = some v → t.get 5 = some (.sl 0 0 6 (bs.map declT)) → t.get 6 = some (.sl k6 0 1 ((raws.take j).map (rowQ bs))) → t.get 7 = some (.sl k7 0 1 (((rowsOf bs (raws.take j)).map (lineF bs)).map strS)) → t.get 8 = some (.v (.int .i64 ((j : Nat) : Int))) →
    WX EZ 110 (.loop fbLB) ⟨t, []⟩ S (fun r => ∃ t' S' k6 k7, r = .out (.exit 0) ⟨t', []⟩ S' ∧ t'.get 5 = some (.sl 0 0 6 (bs.map declT)) ∧ t'.get 6 = some (.sl k6 0 1 ((raws.take 10).map (rowQ bs))) ∧ t'.get 7 = some (.sl k7 0 1 (((rowsOf bs (raws.take 10)).map (lineF bs)).map strS)))
  | 0, j, k6, k7, t, S, hj, RO6, RO7, hd, hn, T1, T5, T6, T7, T8 => by
    refine WX_loop (W_sound ?_)
    have hlr := fun S => rows_len hv S
    have htk : raws.take j = raws.take 10 := by
      by_cases h : raws.length ≤ 10
      · rw [List.take_of_length_le h, List.take_of_length_le (by omega)]
      · rw [show j = 10 by omega]
    rw [htk] at T6 T7
    generalize bs.map declT = L at *
    generalize (raws.take 10).map (rowQ bs) = R6 at *
    generalize ((rowsOf bs (raws.take 10)).map (lineF bs)).map strS = R7 at *
    by_cases hjl : j < raws.length
    · have hlt : decide ((j : Int) < (raws.length : Int)) = true := by rw [decide_eq_true_eq]; omega
      have hl10 : decide ((j : Int) < 10) = false := by rw [decide_eq_false_iff_not]; omega
      simp (maxSteps := 2000000) (disch := omega) only [thenW_exit, W_skip, W_region, W_seq, W_cond, W_block, W_exit, seqQ_normal2, seqQ_exit2, WL_nil2, WL_cons, execL_val2, putL_some2, condW_f2, wantedA, exec1, evalO, T.get_set, callA, ofOpt, ofConst, partsA, neNil3, fb_lss, Nat.reduceLT, Nat.reduceEqDiff, if_true, if_false, true_and, List.getElem?_toArray, List.getElem?_cons_succ, List.getElem?_cons_zero, Option.bind_some, beq_self_eq_true, Bool.false_eq_true, ez_P, Tryd.f4, neNil3, ybN_2, fbLB, T1, T5, T8, hlr, hlt, hl10]
      exact ⟨_, _, k6, k7, rfl, by simp only [T.get_set, Nat.reduceEqDiff, if_false, T5], by simp only [T.get_set, Nat.reduceEqDiff, if_false, T6], by simp only [T.get_set, Nat.reduceEqDiff, if_false, T7]⟩
    · have hlt : decide ((j : Int) < (raws.length : Int)) = false := by rw [decide_eq_false_iff_not]; omega
      simp (maxSteps := 2000000) (disch := omega) only [thenW_exit, W_skip, W_region, W_seq, W_cond, W_block, W_exit, seqQ_normal2, seqQ_exit2, WL_nil2, WL_cons, execL_no, execL_val2, putL_some2, condW_f2, wantedA, exec1, evalO, T.get_set, callA, ofOpt, ofConst, partsA, neNil3, fb_lss, Nat.reduceLT, Nat.reduceEqDiff, if_true, if_false, true_and, List.getElem?_toArray, List.getElem?_cons_succ, List.getElem?_cons_zero, Option.bind_some, Bool.false_eq_true, Bool.not_true, Bool.false_beq, ez_P, ez_G, Tryd.f4, neNil3, ybN_2, fbLB, T1, T5, T8, hlr, hlt]
      exact ⟨_, _, k6, k7, rfl, by simp only [T.get_set, Nat.reduceEqDiff, if_false, T5], by simp only [T.get_set, Nat.reduceEqDiff, if_false, T6], by simp only [T.get_set, Nat.reduceEqDiff, if_false, T7]⟩
  | n + 1, j, k6, k7, t, S, hj, RO6, RO7, hd, hn, T1, T5, T6, T7, T8 => by
    refine WX_loop (W_sound ?_)
    have hlr := fun S => rows_len hv S
    have hjl : j < raws.length := by omega
    have hlt : decide ((j : Int) < (raws.length : Int)) = true := by rw [decide_eq_true_eq]; omega
    have hl10 : decide ((j : Int) < 10) = true := by rw [decide_eq_true_eq]; omega
    have hws := wrapS j (by omega)
    obtain ⟨e, ie, ge⟩ := rows_idx hv j hjl
    have hoj := hok _ (List.getElem_mem hjl)
    have hbe := beqA_ints ge
    obtain ⟨fn1, hf1⟩ := fnz_14
    obtain ⟨fn2, hf2⟩ := fnz_11
    obtain ⟨fn3, hf3⟩ := fnz_15
    obtain ⟨fn4, hf4⟩ := fnz_16b
    have htk : raws.take (j + 1) = raws.take j ++ [raws[j]] := List.take_succ_eq_append_getElem hjl
    generalize raws[j] = rj at *
    have hor : okInts (rowOf bs rj bs.length) := okRow_ints _ _ (rowOf_ok bs rj hoj)
    obtain ⟨by6, hrt6⟩ := ytR
    obtain ⟨by7, hrt7⟩ := ytS
    obtain ⟨S2, happ6, ro6, n2, k2⟩ := push_row (E := EZ) hrt6 rfl rfl RO6 hn (rowQ bs rj) rfl (by rw [List.length_map, List.length_take]; omega)
    have RO7' : RowO 1 S2 k7 (((rowsOf bs (raws.take j)).map (lineF bs)).map strS) := RO7.keep (by omega) fun h1 h2 => k2 k7 (hd h1) h2
    obtain ⟨S3, happ7, ro7, n3, k3⟩ := push_row (E := EZ) hrt7 rfl rfl RO7' (by omega) (strS (lineF bs (rowOf bs rj bs.length))) rfl (by unfold rowsOf; rw [List.length_map, List.length_map, List.length_map, List.length_take]; omega)
    have hm6 : (raws.take j).map (rowQ bs) ++ [rowQ bs rj] = (raws.take (j + 1)).map (rowQ bs) := by rw [htk, List.map_append]; rfl
    have hm7 : ((rowsOf bs (raws.take j)).map (lineF bs)).map strS ++ [strS (lineF bs (rowOf bs rj bs.length))] = ((rowsOf bs (raws.take (j + 1))).map (lineF bs)).map strS := by rw [htk]; unfold rowsOf; rw [List.map_append, List.map_append, List.map_append]; rfl
    have hk7 : k7 = 1 ∨ k7 < S.next := RO7.elim .inl fun h => .inr h.2.1
    have ro6' : RowO 1 S3 S.next ((raws.take j).map (rowQ bs) ++ [rowQ bs rj]) := ro6.keep (by omega) fun h1 h2 => k3 S.next (by omega) (by omega)
    rw [hm6] at happ6 ro6'
    rw [hm7] at happ7 ro7
    have fin : ∀ (t' : T AV), t'.get 1 = some v → t'.get 5 = some (.sl 0 0 6 (bs.map declT)) → t'.get 6 = some (.sl S.next 0 1 ((raws.take (j + 1)).map (rowQ bs))) → t'.get 7 = some (.sl S2.next 0 1 (((rowsOf bs (raws.take (j + 1))).map (lineF bs)).map strS)) → t'.get 8 = some (.v (.int .i64 ((j + 1 : Nat) : Int))) → WX EZ 110 (.loop fbLB) ⟨t', []⟩ S3 (fun r => ∃ t' S' k6 k7, r = .out (.exit 0) ⟨t', []⟩ S' ∧ t'.get 5 = some (.sl 0 0 6 (bs.map declT)) ∧ t'.get 6 = some (.sl k6 0 1 ((raws.take 10).map (rowQ bs))) ∧ t'.get 7 = some (.sl k7 0 1 (((rowsOf bs (raws.take 10)).map (lineF bs)).map strS))) := fun t' => fb_lp h5 hv hok n (j + 1) S.next S2.next t' S3 (by omega) ro6' ro7 (fun _ => by omega) (by omega)
    generalize (raws.take (j + 1)).map (rowQ bs) = n6 at *
    generalize (raws.take j).map (rowQ bs) = o6 at *
    generalize ((rowsOf bs (raws.take (j + 1))).map (lineF bs)).map strS = n7 at *
    generalize ((rowsOf bs (raws.take j)).map (lineF bs)).map strS = o7 at *
    have hbr := yrR_1 (rowQ bs rj) rfl rfl
    unfold rowQ at happ6 hbr
    simp only [strS] at happ7
    have hg : isInts (.sl 0 0 1 ((rowOf bs rj bs.length).map i64A)) (rowOf bs rj bs.length) := .inr (.inl ⟨0, 0, rfl⟩)
    have HL : ∃ L, L = bs.map declT := ⟨_, rfl⟩
    obtain ⟨L, hL⟩ := HL
    have HR : ∃ RA, RA = (rowOf bs rj bs.length).map i64A := ⟨_, rfl⟩
    obtain ⟨RA, hRA⟩ := HR
    have H1 : ∃ l1, l1 = lineF bs (rowOf bs rj bs.length) := ⟨_, rfl⟩
    obtain ⟨l1, hl1⟩ := H1
    have H2 : ∃ l2, l2 = lineF bs rj := ⟨_, rfl⟩
    obtain ⟨l2, hl2⟩ := H2
    rw [← hRA] at happ6 hbr
    rw [← hl1] at happ7
    rw [← hL] at T5
    simp (maxSteps := 2000000) (disch := omega) only [thenW_exit, W_skip, W_region, W_seq, W_cond, W_block, W_exit, seqQ_normal2, seqQ_exit2, WL_nil2, WL_cons, execL_val2, execL_enter2, putL_some2, condW_t2, wantedA, exec1, evalO, T.get_set, callA, mapO, ofOpt, ofConst, partsA, neNil3, fb_lss, Nat.reduceLT, Nat.reduceEqDiff, if_true, if_false, true_and, List.getElem?_toArray, List.getElem?_cons_succ, List.getElem?_cons_zero, Option.bind_some, List.nil_append, List.append_nil, beq_self_eq_true, Bool.false_eq_true, ez_P, Tryd.f4, neNil3, ybN_2, yle42, fbLB, T1, T5, T8, hlr, hlt, hl10, ie, hf1]
    rw [hL]
    refine lrow_u (bs := bs) h5 ge ?_
    rw [← hL, ← hRA]
    simp (maxSteps := 2000000) (disch := omega) only [W_region, W_seq, seqQ_normal2, WL_nil2, WL_cons, execL_val2, execL_enter2, putL_some2, retL_ret2, wantedA, exec1, evalO, T.get_set, callA, mapO, ofOpt, Nat.reduceLT, Nat.reduceEqDiff, if_true, if_false, true_and, List.nil_append, List.append_nil, T5, hf2]
    rw [hL]
    refine use_own h5 ?_
    rw [← hL]
    simp (maxSteps := 2000000) (disch := omega) only [WL_cons, execL_val2, execL_enter2, putL_some2, retL_ret2, wantedA, exec1, evalO, T.get_set, callA, mapO, ofOpt, Nat.reduceLT, Nat.reduceEqDiff, if_true, if_false, true_and, List.nil_append, List.append_nil, hf3]
    rw [hL, hRA]
    refine frow_u h5 hg hor ?_
    rw [← hL, ← hRA, ← hl1]
    simp only [strS]
    simp (maxSteps := 2000000) (disch := omega) only [W_drawn, W_seq, seqQ_normal2, WL_nil2, WL_cons, execL_val2, putL_some2, retL_ret2, wantedA, exec1, evalO, T.get_set, ofOpt, Nat.reduceLT, Nat.reduceEqDiff, if_true, if_false, true_and]
    refine WD_by [(0, true), (1, true), (2, true), (3, true), (4, true), (5, true), (6, true), (8, true), (9, true), (10, true), (11, true), (13, true), (14, true), (15, true), (16, true), (17, true), (7, true), (17, false), (11, false), (12, true), (17, false), (18, true), (19, true), (20, true)] (by kernel_rfl) (by kernel_rfl) ?_
    simp (maxSteps := 2000000) (disch := omega) only [wantedA, exec1, evalO, T.get_set, callA, mapO, ofOpt, Nat.reduceLT, Nat.reduceEqDiff, if_true, if_false, true_and, List.getElem?_toArray, List.getElem?_cons_succ, List.getElem?_cons_zero, List.nil_append, List.append_nil, Bool.false_eq_true, WR_op, execR_val2, execR_enter2, putRW_some2, rsOf, T5, hf4]
    rw [hL, hRA]
    refine line_u h5 hg hor ?_
    rw [← hL, ← hRA, ← hl1]
    simp only [strS]
    simp (maxSteps := 2000000) (disch := omega) only [wantedA, exec1, evalO, T.get_set, callA, mapO, ofOpt, fb_neqSx, neNil9, Nat.reduceLT, Nat.reduceEqDiff, if_true, if_false, true_and, List.getElem?_toArray, List.getElem?_cons_succ, List.getElem?_cons_zero, Option.bind_some, List.nil_append, List.append_nil, beq_self_eq_true, Bool.false_eq_true, decide_true, Bool.not_true, WR_op, execR_val2, execR_enter2, putRW_some2, retRW_ret2, ez_P, neNil9, yle42, T1, T5, T8, ie, hf2]
    rw [hL]
    refine use_own h5 ?_
    rw [← hL]
    simp (maxSteps := 2000000) (disch := omega) only [wantedA, exec1, evalO, T.get_set, callA, mapO, ofOpt, Nat.reduceLT, Nat.reduceEqDiff, if_true, if_false, true_and, List.getElem?_toArray, List.getElem?_cons_succ, List.getElem?_cons_zero, Option.bind_some, List.nil_append, List.append_nil, beq_self_eq_true, WR_op, WR_re2, execR_enter2, putRW_some2, retRW_ret2, againO, lookV, ez_P, yle42, hbe, hf3]
    rw [hL]
    refine frow_u h5 ge hoj ?_
    rw [← hL, ← hl2]
    simp only [strS]
    simp (maxSteps := 2000000) (disch := omega) only [wantedA, exec1, evalO, T.get_set, callA, mapO, ofOpt, Nat.reduceLT, Nat.reduceEqDiff, if_true, if_false, true_and, List.getElem?_toArray, List.getElem?_cons_succ, List.getElem?_cons_zero, Option.bind_some, List.nil_append, List.append_nil, beq_self_eq_true, WR_op, WR_re2, execR_enter2, putRW_some2, retRW_ret2, againO, lookV, ez_P, yle42, hbe, hf4]
    rw [hL]
    refine line_u h5 ge hoj ?_
    rw [← hL, ← hl2]
    simp only [strS]
    simp (maxSteps := 2000000) (disch := omega) only [thenW_normal, thenW_ret, W_skip, W_region, W_seq, W_cond, W_ret, seqQ_normal2, seqQ_ret2, blockW_normal2, blockW_ret2, WL_nil2, WL_cons, execL_val2, putL_some2, condW_f2, wantedA, exec1, evalO, T.get_set, callA, ofOpt, ofOptS, ofConst, partsA, neNil3, fb_add, fb_neqSx, neNil9, Nat.reduceLT, Nat.reduceEqDiff, if_true, if_false, true_and, List.getElem?_toArray, List.getElem?_cons_succ, List.getElem?_cons_zero, Option.bind_some, beq_self_eq_true, Bool.false_eq_true, decide_true, Bool.not_true, WR_nil2, WR_op, execR_val2, putRW_some2, retRW_ret2, fixQ_normal2, ez_P, neNil3, neNil9, yrS_1, T6, T7, T8, hbr, happ6, happ7, hws]
    rw [hL]
    refine fin _ ?_ ?_ ?_ ?_ ?_
    · simp only [T.get_set, Nat.reduceEqDiff, if_false, T1]
    · simp only [T.get_set, Nat.reduceEqDiff, if_false, T5, hL]
    · simp only [T.get_set, Nat.reduceEqDiff, if_true, if_false]
    · simp only [T.get_set, Nat.reduceEqDiff, if_true, if_false]
    · simp only [T.get_set, Nat.reduceEqDiff, if_true, if_false]
theorem back_w (hF : FeedKn) {w v : AV} {bs0 : List Bool} {raws : List (List Int)} (hw : isBools w bs0) (hv : isRows v raws) (hok : ∀ r ∈ raws, okInts r) : WC EZ 4 [w, v] St0 (fun r => ∃ S', r = .ret (.v (.bool true)) S') := by
  refine WC_fn Tryd.f4 (by kernel_rfl) (by kernel_rfl) (by kernel_rfl) (show (_ : Nat) ≤ _ from by show (_ : Nat) ≤ _; simp [Tryd.f4]) ?_
  obtain ⟨fn1, hf1⟩ := fnz_7
  obtain ⟨fn2, hf2⟩ := fnz_9
  obtain ⟨fn3, hf3⟩ := fnz_11
  obtain ⟨fn4, hf4⟩ := fnz_17
  obtain ⟨fn5, hf5⟩ := fnz_10
  simp (maxSteps := 2000000) (disch := omega) only [W_region, W_seq, seqQ_normal2, WL_nil2, WL_cons, execL_val2, execL_enter2, putL_some2, wantedA, exec1, evalO, initT, callA, mapO, ofOpt, ofConst, Nat.reduceLT, true_and, Option.getD_some, List.append_nil, Nat.zero_add, Tryd.f4, hf1, initT]
  refine aw_u hF ?_
  simp (maxSteps := 2000000) (disch := omega) only [W_skip, W_region, W_seq, W_cond, W_ret, seqQ_normal2, seqQ_ret2, WL_nil2, WL_cons, execL_val2, execL_enter2, putL_some2, retL_ret2, condW_f2, wantedA, exec1, evalO, T.get_set, T.get_leaf, callA, mapO, ofOpt, ofConst, finW_ret, giveW, resultsA, tupA, notO_bool, Nat.reduceLT, Nat.reduceEqDiff, if_true, if_false, true_and, List.nil_append, List.append_nil, Bool.not_true, ez_P, ez_G, gnot, hf2]
  refine decls_u hw fun bs hb => ?_
  have h5 : bs.length ≤ 5 := by rw [hb, List.length_take]; omega
  clear hb hw
  have lp := fun t S => fb_lp h5 hv hok (min raws.length 10) 0 1 1 t S (by omega) (.inl rfl) (.inl rfl) (fun h => by omega)
  unfold fbLB at lp
  simp only [Tryd.f4] at lp
  generalize hL : bs.map declT = L at *
  simp (maxSteps := 2000000) (disch := omega) only [W_region, W_seq, W_block, W_loop, seqQ_normal2, WL_nil2, WL_cons, execL_val2, putL_some2, retL_ret2, wantedA, exec1, evalO, T.get_set, T.get_leaf, ofOpt, ofConst, partsA, Nat.reduceLT, Nat.reduceEqDiff, if_true, if_false, true_and, ez_P, yrR_0, yrS_0]
  refine WX.mono (lp _ _ ?_ ?_ ?_ ?_ ?_ ?_) ?_
  · exact Nat.le_refl _
  · simp only [T.get_set, T.get_leaf, Nat.reduceEqDiff, if_true, if_false] <;> rfl
  · simp only [T.get_set, T.get_leaf, Nat.reduceEqDiff, if_true, if_false] <;> rfl
  · simp only [T.get_set, T.get_leaf, Nat.reduceEqDiff, if_true, if_false] <;> rfl
  · simp only [T.get_set, T.get_leaf, Nat.reduceEqDiff, if_true, if_false] <;> rfl
  · simp only [T.get_set, T.get_leaf, Nat.reduceEqDiff, if_true, if_false] <;> rfl
  rintro _ ⟨t', S', k6, k7, rfl, T5, T6, T7⟩
  clear lp
  have hrn : (raws.take 10).length ≤ 10 := by rw [List.length_take]; omega
  have hrl : (rowsOf bs (raws.take 10)).length = (raws.take 10).length := List.length_map ..
  have hro : ∀ r ∈ rowsOf bs (raws.take 10), okRow bs r := fun r hr => by
    obtain ⟨x, hx, rfl⟩ := List.mem_map.1 hr
    exact rowOf_ok bs x (hok x (List.mem_of_mem_take hx))
  have hrr : ∀ r ∈ rowsOf bs (raws.take 10), r.length ≤ 100000 := fun r hr => by
    obtain ⟨x, hx, rfl⟩ := List.mem_map.1 hr
    rw [rowOf_len]; omega
  have hm : isRows (.sl k6 0 1 ((raws.take 10).map (rowQ bs))) (rowsOf bs (raws.take 10)) := .inr ⟨k6, 0, _, rfl, rows20_A bs _⟩
  have hll : ∀ l ∈ (rowsOf bs (raws.take 10)).map (lineF bs), l.length ≤ 200 := fun l hl => by
    obtain ⟨r, hr, rfl⟩ := List.mem_map.1 hl
    unfold lineF
    split
    · decide
    · have := line_len (ts := bs) (okRow_ints _ _ (hro r hr)) bs.length; omega
  have hjl := join_le [10, 10] 200 _ hll
  rw [List.length_map, hrl] at hjl
  have hjl2 : (raws.take 10).length * (([10, 10] : List UInt8).length + 200) ≤ 10 * 202 := Nat.mul_le_mul hrn (Nat.le_refl _)
  have hback := lines_back0 bs (rowsOf bs (raws.take 10)) (by omega) hro
  generalize (raws.take 10).map (rowQ bs) = R6 at *
  have hwl : ((rowsOf bs (raws.take 10)).map (lineF bs)).length ≤ 1000000 := by rw [List.length_map]; omega
  generalize (rowsOf bs (raws.take 10)).map (lineF bs) = ws at *
  generalize rowsOf bs (raws.take 10) = rows at *
  generalize hwm : ws.map strS = wm at *
  simp (maxSteps := 2000000) (disch := omega) only [W_region, W_seq, seqQ_normal2, seqQ_exit2, blockW_exit2, WL_cons, execL_val2, execL_enter2, putL_some2, wantedA, exec1, evalO, T.get_set, callA, mapO, ofOpt, Nat.reduceLT, if_true, true_and, List.nil_append, List.append_nil, T5, hf3]
  subst hL
  refine use_own h5 ?_
  generalize hL : bs.map declT = L at *
  simp (maxSteps := 2000000) (disch := omega) only [WL_cons, execL_val2, execL_enter2, putL_some2, retL_ret2, wantedA, exec1, evalO, T.get_set, callA, mapO, ofOpt, ofConst, partsA, Nat.reduceLT, Nat.reduceEqDiff, if_true, if_false, true_and, List.nil_append, List.append_nil, ez_P, ybM_2, T7, hf4]
  subst hwm
  refine join_sl (s := [10, 10]) (ws := ws) hwl (by omega) ?_
  generalize hjn : Lib.join ws [10, 10] = l at *
  simp only [strS]
  simp (maxSteps := 2000000) (disch := omega) only [WL_cons, execL_enter2, putL_some2, retL_ret2, wantedA, exec1, evalO, T.get_set, callA, mapO, Nat.reduceLT, Nat.reduceEqDiff, if_true, if_false, true_and, List.nil_append, List.append_nil, hf5]
  subst hL
  refine feed_u hF (bs := bs) (l := l) h5 (by omega) fun x hx => ?_
  rw [hback] at hx ⊢
  have hx : isRows x rows := hx
  generalize hL : bs.map declT = L at *
  have lx := fun S => rows_len hx S
  have lm := fun S => rows_len hm S
  have h1 : (((0 : Nat) : Int) != 0) = false := rfl
  have h2 : ((-1 : Int) != -1) = false := rfl
  have lp := fun t S => fc_lp hx hm hrr (by omega) rows.length 0 t S (by omega)
  unfold fcLB at lp
  simp only [Tryd.f4] at lp
  simp (maxSteps := 2000000) (disch := omega) only [W_skip, W_region, W_seq, W_cond, W_block, W_loop, W_ret, seqQ_normal2, seqQ_ret2, WL_nil2, WL_cons, execL_val2, putL_some2, retL_ret2, condW_f2, wantedA, exec1, evalO, T.get_set, callA, ofOpt, ofConst, neNil3, finW_ret, giveW, resultsA, tupA, fb_neqI, Nat.reduceLT, Nat.reduceEqDiff, if_true, if_false, true_and, List.getElem?_toArray, List.getElem?_cons_succ, List.getElem?_cons_zero, Option.bind_some, beq_self_eq_true, Bool.false_eq_true, oExtract, ez_P, i64A, neNil3, neNil28, oExtract, T6, lx, lm, h1, h2, ne_self]
  refine WX.mono (lp _ _ ?_ ?_ ?_ ?_) ?_
  · simp only [T.get_set, Nat.reduceEqDiff, if_true, if_false] <;> rfl
  · simp only [T.get_set, Nat.reduceEqDiff, if_false, T6] <;> rfl
  · simp only [T.get_set, Nat.reduceEqDiff, if_true, if_false] <;> rfl
  · simp only [T.get_set, Nat.reduceEqDiff, if_true, if_false] <;> rfl
  rintro _ ⟨t2, S2, rfl⟩
  simp (maxSteps := 2000000) (disch := omega) only [W_region, W_seq, W_ret, seqQ_normal2, seqQ_exit2, blockW_exit2, WL_nil2, WL_cons, execL_val2, putL_some2, wantedA, exec1, evalO, T.get_set, ofOpt, ofConst, finW_ret, giveW, resultsA, tupA, Nat.reduceLT, if_true, true_and]
  exact ⟨_, rfl⟩
end Go.Ax
