/-
  Layer 20: FeedReads, the reader known.
-/
import Derived.Test.YtbchlfdjedbfhaaDoorWG12
import Derived.Test.YtbchlfdjedbfhaaDoorWG14
import Derived.Lib.LaidTab
import Derived.Deep.Strs
import Derived.Deep.Grids
import Derived.Lib.Join
import Derived.Laws.BitsLemmas
import Derived.Laws.Entries
import Derived.IntWalk
set_option linter.unusedVariables false
set_option linter.unusedSimpArgs false
set_option maxHeartbeats 16000000
noncomputable section
namespace Go.Ax
open Go.RowKit Go.Proofs
set_option linter.unusedVariables false
set_option linter.unusedSimpArgs false
set_option maxRecDepth 100000
theorem lines_few' : ∀ (ts : List Bool) (ls : List (List UInt8)) (k n : Nat), (linesF ts k n ls).1.length ≤ ls.length
  | ts, [], k, n => Nat.le_refl _
  | ts, l :: ls, k, n => by
    have h1 := lines_few' ts ls (k + 1) n
    have h2 := lines_few' ts ls (k + 1) (n + 1)
    rw [linesF]
    split
    · simp only [List.length_cons]; omega
    · split
      · simp
      · split
        · split
          · simp only [List.length_cons]; omega
          · simp only [List.length_cons]; omega
        · simp
theorem lines_few (ts : List Bool) (l : List UInt8) (hl : l.length ≤ 100000) : (linesF ts 0 0 (splitB 10 l)).1.length ≤ 200000 := by
  have h1 := lines_few' ts (splitB 10 l) 0 0
  have h2 := (split_len 10 l).1
  omega
theorem fnz_7 : ∃ fn, EZ.F 7 = some fn := Option.isSome_iff_exists.1 (by kernel_rfl)
theorem fnz_8 : ∃ fn, EZ.F 8 = some fn := Option.isSome_iff_exists.1 (by kernel_rfl)
theorem fnz_12 : ∃ fn, EZ.F 12 = some fn := Option.isSome_iff_exists.1 (by kernel_rfl)
theorem fnz_13 : ∃ fn, EZ.F 13 = some fn := Option.isSome_iff_exists.1 (by kernel_rfl)
theorem aw_u (hF : FeedKn) {S : St} {Q : R → Prop} (h : Q (.ret (.v (.bool true)) S)) : WC EZ 7 [] S Q :=
  callZ (aw_k hF) (by kernel_rfl) rfl rfl fun a _ _ hs => by
    have := hs rfl
    subst this
    exact h
def frLB : Code := match Tryd.f3.body with
  | some (.seq _ (.seq _ (.seq _ (.seq _ (.seq _ (.seq _ (.seq _ (.seq (.seq _ (.block _ (.loop c))) _)))))))) => c
  | _ => .skip
theorem frLB_is : (match frLB with | .skip => false | _ => true) = true := by kernel_rfl
theorem ne_self (a : Int) : (a != a) = false := by simp
theorem fr_lp {v m : AV} {rows : List (List Int)} (hv : isRows v rows) (hm : isRows m rows) (hr : ∀ r ∈ rows, r.length ≤ 100000) (hn : rows.length ≤ 200000) : ∀ (n j : Nat) (t : T AV) (S : St), j + n = rows.length → t.get 6 = some v → t.get 9 = some m → t.get 52 = some (.v (.int .i64 ((rows.length : Nat) : Int))) → t.get 53 = some (.v (.int .i64 ((j : Nat) : Int))) →
    WX EZ 67 (.loop frLB) ⟨t, []⟩ S (fun r => ∃ t' S', r = .out (.exit 0) ⟨t', []⟩ S')
  | 0, j, t, S, hj, T6, T9, T52, T53 => by
    refine WX_loop (W_sound ?_)
    have hlt : decide ((j : Int) < (rows.length : Int)) = false := by rw [decide_eq_false_iff_not]; omega
    simp (maxSteps := 2000000) (disch := omega) only [thenW_exit, W_skip, W_region, W_drawn, W_seq, W_cond, W_block, W_exit, seqQ_normal2, seqQ_exit2, WL_nil2, WL_cons, execL_val2, putL_some2, condW_f2, wantedA, exec1, evalO, T.get_set, ofOpt, neNil3, fb_lss, Nat.reduceLT, Nat.reduceEqDiff, if_true, if_false, true_and, Bool.false_eq_true, ez_P, frLB, Tryd.f3, T52, T53, hlt]
    exact ⟨_, _, rfl⟩
  | n + 1, j, t, S, hj, T6, T9, T52, T53 => by
    refine WX_loop (W_sound ?_)
    have hjl : j < rows.length := by omega
    have hlt : decide ((j : Int) < (rows.length : Int)) = true := by rw [decide_eq_true_eq]; omega
    obtain ⟨e1, i1, g1⟩ := rows_idx hv j hjl
    obtain ⟨e2, i2, g2⟩ := rows_idx hm j hjl
    have hrl := hr _ (List.getElem_mem hjl)
    have hws := wrapS j (by omega)
    have h00 : ((0 : Int) != 0) = false := rfl
    obtain ⟨fn1, hf1⟩ := fnz_13
    generalize rows[j] = rj at *
    simp (maxSteps := 2000000) (disch := omega) only [thenW_exit, W_skip, W_region, W_drawn, W_seq, W_cond, W_block, W_exit, seqQ_normal2, seqQ_exit2, WL_nil2, WL_cons, execL_val2, putL_some2, condW_t2, wantedA, exec1, evalO, T.get_set, ofOpt, neNil3, fb_lss, Nat.reduceLT, Nat.reduceEqDiff, if_true, if_false, true_and, Bool.false_eq_true, ez_P, frLB, Tryd.f3, T52, T53, hlt]
    refine WD_by [(0, true), (1, true), (2, true), (3, true), (4, true), (5, true), (6, true), (7, true), (8, true), (9, true)] (by kernel_rfl) (by kernel_rfl) ?_
    simp (maxSteps := 2000000) (disch := omega) only [wantedA, exec1, evalO, T.get_set, callA, mapO, ofOpt, Nat.reduceLT, Nat.reduceEqDiff, if_true, if_false, true_and, List.getElem?_toArray, List.getElem?_cons_succ, List.getElem?_cons_zero, List.nil_append, List.append_nil, WR_op, execR_val2, execR_enter2, putRW_some2, rsOf, ez_P, yle42, T6, T9, i1, i2, hf1]
    refine same_u g1 g2 hrl ?_
    rw [if_pos rfl]
    simp (maxSteps := 2000000) (disch := omega) only [thenW_normal, thenW_ret, W_skip, W_region, W_seq, W_cond, W_ret, seqQ_normal2, seqQ_ret2, blockW_normal2, blockW_ret2, WL_nil2, WL_cons, execL_val2, putL_some2, condW_f2, wantedA, exec1, evalO, T.get_set, ofOpt, ofConst, neNil3, fb_add, fb_neqI, Nat.reduceLT, Nat.reduceEqDiff, if_true, if_false, true_and, Bool.false_eq_true, WR_nil2, WR_op, execR_val2, putRW_some2, retRW_ret2, fixQ_normal2, ez_P, i64A, T53, h00, hws]
    refine WX.mono (fr_lp hv hm hr hn n (j + 1) _ _ (by omega) ?_ ?_ ?_ ?_) (fun r h => h)
    · simp only [T.get_set, Nat.reduceEqDiff, if_false, T6]
    · simp only [T.get_set, Nat.reduceEqDiff, if_false, T9]
    · simp only [T.get_set, Nat.reduceEqDiff, if_false, T52]
    · simp only [T.get_set, Nat.reduceEqDiff, if_true, if_false]
theorem reads_w (hF : FeedKn) (w : AV) (bs : List Bool) (s : List UInt8) (hw : isBools w bs) (S : St) : WC EZ 3 [w, strS s] S (fun r => ∃ S', r = .ret (.v (.bool true)) S') := by
  refine WC_fn Tryd.f3 (by kernel_rfl) (by kernel_rfl) (by kernel_rfl) (show (_ : Nat) ≤ _ from by show (_ : Nat) ≤ _; simp [Tryd.f3]) ?_
  obtain ⟨fn1, hf1⟩ := fnz_7
  obtain ⟨fn2, hf2⟩ := fnz_8
  obtain ⟨fn3, hf3⟩ := fnz_9
  obtain ⟨fn4, hf4⟩ := fnz_11
  obtain ⟨fn5, hf5⟩ := fnz_10
  obtain ⟨fn6, hf6⟩ := fnz_12
  simp (maxSteps := 2000000) (disch := omega) only [W_region, W_seq, seqQ_normal2, WL_nil2, WL_cons, execL_val2, execL_enter2, putL_some2, wantedA, exec1, evalO, initT, callA, mapO, ofOpt, ofConst, Nat.reduceLT, true_and, Option.getD_some, List.append_nil, Nat.zero_add, Tryd.f3, strS, initT, hf1]
  refine aw_u hF ?_
  simp (maxSteps := 2000000) (disch := omega) only [W_skip, W_region, W_seq, W_cond, W_ret, seqQ_normal2, seqQ_ret2, WL_nil2, WL_cons, execL_val2, execL_enter2, putL_some2, retL_ret2, condW_f2, wantedA, exec1, evalO, T.get_set, T.get_leaf, callA, mapO, ofOpt, ofConst, finW_ret, giveW, resultsA, tupA, notO_bool, Nat.reduceLT, Nat.reduceEqDiff, if_true, if_false, true_and, List.nil_append, List.append_nil, Bool.not_true, ez_P, ez_G, gnot, hf2]
  refine WC.mono (cut_w s _) ?_
  rintro _ rfl
  have hl : (s.take 300).length ≤ 100000 := by rw [List.length_take]; omega
  generalize s.take 300 = l at hl ⊢
  simp only [strS]
  simp (maxSteps := 2000000) (disch := omega) only [W_region, W_seq, seqQ_normal2, WL_nil2, WL_cons, execL_val2, execL_enter2, putL_some2, retL_ret2, wantedA, exec1, evalO, T.get_set, T.get_leaf, callA, mapO, ofOpt, Nat.reduceLT, Nat.reduceEqDiff, if_true, if_false, true_and, List.nil_append, List.append_nil, hf3]
  refine decls_u hw fun bs' hb => ?_
  have h5 : bs'.length ≤ 5 := by rw [hb, List.length_take]; omega
  generalize hL : bs'.map declT = L
  simp (maxSteps := 2000000) (disch := omega) only [W_region, W_seq, seqQ_normal2, WL_nil2, WL_cons, execL_val2, execL_enter2, putL_some2, retL_ret2, wantedA, exec1, evalO, T.get_set, T.get_leaf, callA, mapO, ofOpt, Nat.reduceLT, Nat.reduceEqDiff, if_true, if_false, true_and, List.nil_append, List.append_nil, hf4]
  subst hL
  refine use_own h5 ?_
  generalize hL : bs'.map declT = L
  simp (maxSteps := 2000000) (disch := omega) only [WL_cons, execL_val2, execL_enter2, putL_some2, retL_ret2, wantedA, exec1, evalO, T.get_set, T.get_leaf, callA, mapO, ofOpt, partsA, Nat.reduceLT, Nat.reduceEqDiff, if_true, if_false, true_and, List.nil_append, List.append_nil, ez_P, ybM_2, hf5]
  subst hL
  refine feed_u hF (bs := bs') (l := l) h5 hl fun v hv => ?_
  generalize hL : bs'.map declT = L
  simp (maxSteps := 2000000) (disch := omega) only [W_region, W_seq, seqQ_normal2, WL_nil2, WL_cons, execL_val2, execL_enter2, putL_some2, retL_ret2, wantedA, exec1, evalO, T.get_set, T.get_leaf, callA, mapO, ofOpt, partsA, Nat.reduceLT, Nat.reduceEqDiff, if_true, if_false, true_and, List.getElem?_cons_succ, List.getElem?_cons_zero, List.nil_append, List.append_nil, oExtract, ez_P, ybN_2, i64A, oExtract, hf6]
  subst hL
  refine use_parse (v := .sl 0 0 6 (bs'.map declT)) (ts := bs') (l := l) (isDcls_T bs') (decls_free bs').1 (by show AV.sl 0 0 6 (cleanL _) = _; rw [(decls_free bs').2]) (nod_free bs').1 (nod_free bs').2 (by omega) hl ?_
  have hm := lines_rows bs' (splitB 10 l)
  have hr : ∀ r ∈ (linesF bs' 0 0 (splitB 10 l)).1, r.length ≤ 100000 := fun r h => by rw [lines_len bs' _ 0 0 r h]; omega
  have hn : (linesF bs' 0 0 (splitB 10 l)).1.length ≤ 200000 := lines_few bs' l hl
  generalize linesVal bs' (linesF bs' 0 0 (splitB 10 l)) = m at *
  generalize linesF bs' 0 0 (splitB 10 l) = X at *
  have lv := fun S => rows_len hv S
  have lm := fun S => rows_len hm S
  have lp := fun t S => fr_lp hv hm hr hn X.1.length 0 t S (by omega)
  unfold frLB at lp
  simp only [Tryd.f3] at lp
  simp (maxSteps := 2000000) (disch := omega) only [W_skip, W_region, W_seq, W_cond, W_block, W_loop, W_ret, seqQ_normal2, seqQ_ret2, WL_nil2, WL_cons, execL_val2, putL_some2, retL_ret2, condW_f2, wantedA, exec1, evalO, T.get_set, T.get_leaf, callA, ofOpt, ofConst, neNil3, finW_ret, giveW, resultsA, tupA, fb_neqI, Nat.reduceLT, Nat.reduceEqDiff, if_true, if_false, true_and, List.getElem?_toArray, List.getElem?_cons_succ, List.getElem?_cons_zero, Option.bind_some, beq_self_eq_true, Bool.false_eq_true, oExtract, ez_P, i64A, oExtract, lv, lm, ne_self]
  refine WX.mono (lp _ _ ?_ ?_ ?_ ?_) ?_
  · simp only [T.get_set, T.get_leaf, Nat.reduceEqDiff, if_true, if_false] <;> rfl
  · simp only [T.get_set, T.get_leaf, Nat.reduceEqDiff, if_true, if_false] <;> rfl
  · simp only [T.get_set, T.get_leaf, Nat.reduceEqDiff, if_true, if_false] <;> rfl
  · simp only [T.get_set, T.get_leaf, Nat.reduceEqDiff, if_true, if_false] <;> rfl
  rintro r' ⟨t', S', rfl⟩
  simp (maxSteps := 2000000) (disch := omega) only [W_region, W_seq, W_ret, seqQ_normal2, seqQ_exit2, blockW_exit2, WL_nil2, WL_cons, execL_val2, putL_some2, wantedA, exec1, evalO, T.get_set, ofOpt, ofConst, finW_ret, giveW, resultsA, tupA, Nat.reduceLT, if_true, true_and]
  exact ⟨_, rfl⟩
end Go.Ax
noncomputable section
namespace Go.Ax
open Go.RowKit Go.Proofs Go.WideShapes
set_option linter.unusedVariables false
set_option linter.unusedSimpArgs false
set_option maxRecDepth 100000
/-- All that lies in memory is known to stay. -/
def GhW (w : World) : Gh := { loc := fun _ => none, im := fun b o => b < w.heap.size ∧ ∃ v, w.cell? ⟨b, o, none⟩ = some v }
theorem SR.whole (w : World) : SR w.heap.size w (GhW w) St0 w :=
  ⟨.refl _ _, Nat.le_refl _, fun _ _ h => h.2, fun _ _ => ⟨rfl, rfl⟩, Nat.le_refl _, fun _ _ _ h => (by cases h), fun _ _ h => (by cases h), fun _ _ _ _ _ _ _ h => (by cases h)⟩
/-- What is asked of strconv.ErrRange: a pointer to a cell. -/
def RngIn (w : World) : Prop := ∃ b o : Nat, w.cell? ⟨5, 0, none⟩ = some (.iface 143 (.pointer (some ⟨b, o, none⟩)))
/-- The table of the powers of ten. -/
def PowIn (w : World) : Prop := Lib.TabIs Tryd.prog w "internal/strconv.uint64pow10" .u64 Lib.pow10Tab
theorem gz_of {w : World} (hr : RngIn w) (hp : PowIn w) : GR (GhW w) w gZ := by
  intro g cs hg
  unfold gZ at hg
  cases hb : Nat.beq g 5 with
  | true =>
    have : g = 5 := Nat.eq_of_beq_eq_true hb
    subst this
    rw [hb] at hg
    obtain ⟨b, o, h⟩ := hr
    injection hg with hg; subst hg
    refine ⟨.ep _ 5 0 (fun _ => .iface 143 (.pointer (some ⟨b, o, none⟩))) (fun k hk => ?_) (fun x hx => ?_) (fun k hk => ?_), fun h2 => absurd h2 (by simp)⟩
    · have : k = 0 := by simp at hk; exact hk
      subst this
      exact ⟨⟨World.block_lt_of_cell? w _ h, _, h⟩, h⟩
    · simp only [List.mem_cons, List.not_mem_nil, or_false] at hx; subst hx; rfl
    · have : k = 0 := by simp at hk; exact hk
      subst this
      exact .iface _ _ _ (.ep _ b o (fun _ => undef) (fun k hk => by cases hk) (fun x hx => by cases hx) (fun k hk => by cases hk))
  | false =>
    rw [hb] at hg
    cases hb3 : Nat.beq g 3 with
    | false => rw [hb3] at hg; cases hg
    | true =>
      have : g = 3 := Nat.eq_of_beq_eq_true hb3
      subst this
      rw [hb3] at hg
      injection hg with hg; subst hg
      unfold PowIn Lib.TabIs World.var? at hp
      rw [gPowZ] at hp
      simp only [Option.bind_some] at hp
      split at hp
      · rename_i arr T fr ha
        injection hp with h
        have hsz : arr.size = 20 := by rw [h]; simp [Lib.pow10Tab_length]
        have hcell : ∀ k, k < powG.length → w.cell? ⟨3, 0 + k, none⟩ = some (arr.getD k undef) := fun k hk => by
          rw [powG_len] at hk
          rw [Nat.zero_add, cells_at ha, Array.getElem?_eq_getElem (by omega)]
          simp [Array.getD, show k < arr.size by omega]
        refine ⟨.ep powG 3 0 (fun k => arr.getD k undef) (fun k hk => ⟨⟨World.block_lt_of_cell? w _ (hcell k hk), _, hcell k hk⟩, hcell k hk⟩) (fun x hx => ?_) (fun k hk => ?_), fun _ => ⟨arr, T, fr, ha, by rw [hsz, powG_len]⟩⟩
        · unfold powG at hx
          obtain ⟨z, _, rfl⟩ := List.mem_map.1 hx
          rfl
        · have hk2 := hk
          rw [powG_len] at hk2
          have e : arr.getD k undef = .int .u64 (Lib.pow10Tab[k]'(by rw [Lib.pow10Tab_length]; omega)) := by
            rw [h]
            simp [Array.getD, Lib.pow10Tab_length, hk2]
          have e3 : powG[k] = .v (.int .u64 (Lib.pow10Tab[k]'(by rw [Lib.pow10Tab_length]; omega))) := by simp [powG]
          rw [e]
          have key : ∀ a : AV, a = .v (.int .u64 (Lib.pow10Tab[k]'(by rw [Lib.pow10Tab_length]; omega))) → VR (GhW w) w a (.int .u64 (Lib.pow10Tab[k]'(by rw [Lib.pow10Tab_length]; omega))) := fun a h => h ▸ .v _ rfl
          exact key _ e3
      · cases hp
/-- A call that is known to answer true, from the world as it came in. -/
theorem callsW_true {k : FuncId} {args : List AV} (h : WC EZ k args St0 (fun r => ∃ S', r = .ret (.v (.bool true)) S')) (hF : (EZ.F k).isSome = true) {w : World} {vs : List Value} (hg : GR (GhW w) w gZ) (hv : VRL (GhW w) w args vs) :
    Calls Tryd.prog k vs.toArray w fun e w' => e = .returned (.bool true) ∧ Below w.heap.size w w' := by
  obtain ⟨r, ⟨m0, hm⟩, S', rfl⟩ := h
  have hr := hm m0 (Nat.le_refl _)
  have hne : callN EZ (drawnNew EZ) m0 k args St0 ≠ .fail := by
    show ckN EZ m0 k args St0 ≠ .fail
    rw [hr]; exact fun e => by cases e
  have := call_sound ez_ok ez_intr (drawnNew_ok ez_ok ez_mix) m0 w.heap.size w k args St0 hne (GhW w) w vs (SR.whole w) hg hv hF
  have hr' : callN EZ (drawnNew EZ) m0 k args St0 = _ := hr
  rw [hr'] at this
  refine this.mono fun e w' he => ?_
  obtain ⟨γ', v, h1, h2, h3, rfl⟩ := he
  cases h3
  exact ⟨rfl, h1.below⟩
theorem off_le {p : Program} {fits : TypeId → Bool} : ∀ {d : Nat} {e : TypeId} {count off n : Nat}, Go.rowAt p fits d e count off n = true → off ≤ count * p.cellsOf e
  | 0, e, count, off, n, h => by simp [Go.rowAt] at h
  | d + 1, e, count, off, n, h => by
    unfold Go.rowAt at h
    simp only at h
    split at h
    · cases h
    · rename_i hs
      have hp : 0 < p.cellsOf e := Nat.pos_of_ne_zero hs
      have h1 : off / p.cellsOf e ≤ count ∧ (off % p.cellsOf e = 0 ∨ off / p.cellsOf e < count) := by
        simp only [Bool.or_eq_true, Bool.and_eq_true, beq_iff_eq, decide_eq_true_eq] at h
        rcases h with ⟨⟨h1, h2⟩, _⟩ | ⟨h1, _⟩
        · exact ⟨by omega, .inl h1⟩
        · exact ⟨by omega, .inr h1⟩
      have hdm := Nat.div_add_mod off (p.cellsOf e)
      have hml := Nat.mod_lt off hp
      rcases h1 with ⟨h1, h2 | h2⟩
      · rw [h2, Nat.add_zero] at hdm
        rw [← hdm, Nat.mul_comm]
        exact Nat.mul_le_mul_right _ h1
      · have h3 : (off / p.cellsOf e + 1) * p.cellsOf e ≤ count * p.cellsOf e := Nat.mul_le_mul_right _ h2
        rw [Nat.add_mul, Nat.one_mul, Nat.mul_comm (off / p.cellsOf e)] at h3
        omega
theorem lies_le {p : Program} : ∀ {d : Nat} {e : TypeId} {count off : Nat} {u : TypeId} {n : Nat}, liesAt p d e count off u n = true → off ≤ count * p.cellsOf e
  | 0, e, count, off, u, n, h => by simp [liesAt] at h
  | d + 1, e, count, off, u, n, h => by
    unfold liesAt at h
    rw [Bool.or_eq_true] at h
    rcases h with h | h
    · exact off_le h
    · split at h
      · exact lies_le h
      · cases h
theorem has_off {P : Program} {W : World} {base : Nat} {a : Addr} {e : TypeId} {n : Nat} (h : W.has P .any base a e n) : ∃ b o arr T fr, a = ⟨b, o, none⟩ ∧ W.heap[b]? = some (Obj.cells arr T fr) ∧ o ≤ arr.size := by
  obtain ⟨_, hs, row, cells, h1, h2⟩ := h
  obtain ⟨b, o, spot⟩ := a
  simp only at hs
  subst hs
  simp only [World.shape?] at h1
  split at h1
  · rename_i c el fr he
    simp only [Option.some.injEq, Prod.mk.injEq] at h1
    obtain ⟨rfl, rfl⟩ := h1
    refine ⟨b, o, c, _, fr, rfl, he, ?_⟩
    have := lies_le h2
    exact Nat.le_trans this (Nat.div_mul_le_self _ _)
  · cases h1
theorem cell_bound {W : World} {b o : Nat} {arr : Array Value} {T : TypeId} {fr : Nat × Nat} {v : Value} (ha : W.heap[b]? = some (Obj.cells arr T fr)) (h : W.cell? ⟨b, o, none⟩ = some v) : o < arr.size := by
  unfold World.cell? at h
  rw [ha] at h
  simp only [Option.isSome_none, Bool.false_eq_true, if_false] at h
  exact (Array.getElem?_eq_some_iff.1 h).1
theorem row_in {w1 : World} {b o len cap : Nat} {arr : Array Value} {T : TypeId} {fr : Nat × Nat} (ha : w1.heap[b]? = some (Obj.cells arr T fr)) (hz : o + cap ≤ arr.size) (hl : len ≤ cap) (V : Nat → Value) (hsc : ∀ i, scalar (V i) = true)
    (hc1 : ∀ i, i < len → w1.cell? ⟨b, o + i, none⟩ = some (V i)) : VR (GhW w1) w1 (.sl 0 0 1 ((List.range len).map fun i => .v (V i))) (.slice (some ⟨b, o, none⟩) len cap) := by
  have hlt1 : b < w1.heap.size := (Array.getElem?_eq_some_iff.1 ha).1
  have hfl : ∀ l : List Nat, flat (l.map fun i => AV.v (V i)) = l.map fun i => AV.v (V i) := fun l => by
    induction l with
    | nil => rfl
    | cons x r ih =>
      show AV.cells (AV.v (V x)) ++ flat (r.map fun i => AV.v (V i)) = _
      rw [ih]; rfl
  have hmain : VR (GhW w1) w1 (.sl 0 0 1 ((List.range len).map fun i => .v (V i))) (.slice (some ⟨b, o, none⟩) ((List.range len).map fun i => AV.v (V i)).length cap) := by
    refine .sl 0 0 1 _ b o cap V (by omega) (fun e he => ?_) (fun x hx => ?_) (fun k hk => ?_) (fun k hk => ?_) (fun h => absurd h (by omega)) (fun h => absurd h (by omega)) (by simpa using hl) ⟨arr, T, fr, ha, by simpa using hz⟩
    · obtain ⟨s, _, rfl⟩ := List.mem_map.1 he; rfl
    · rw [hfl] at hx; obtain ⟨s, _, rfl⟩ := List.mem_map.1 hx; rfl
    · rw [hfl] at hk
      have hk2 : k < len := by simpa using hk
      exact ⟨⟨hlt1, _, hc1 k hk2⟩, hc1 k hk2⟩
    · have hk2 : k < len := by rw [hfl] at hk; simpa using hk
      have e1 : (flat ((List.range len).map fun i => AV.v (V i)))[k] = AV.v (V k) := by
        simp only [hfl, List.getElem_map, List.getElem_range]
      rw [e1]
      exact .v _ (hsc k)
  simpa using hmain
/-- A row of truths, as it comes in. -/
def BoolsIn (W : World) (v : Value) : Prop := ∃ (l : List Bool) (na : AV), isBools na l ∧ VR (GhW W) W na v
theorem un22 : Tryd.prog.underlying 22 = some (.slice 4) := by kernel_rfl
theorem un4 : Tryd.prog.underlying 4 = some .bool := by kernel_rfl
theorem ce4 : Tryd.prog.cellsOf 4 = 1 := by kernel_rfl
theorem bools_in {H : Type} {enc : TypeId × Value → H} {W : World} {base fuel : Nat} {a0 : Option Addr} {len cap : Nat} {x : DataW H × List MemPlace} (hok : Value.okWide Tryd.prog W .any base 22 (.slice a0 len cap))
    (hf : DataW.trod enc Tryd.prog W 0 (fun _ => true) true fuel 22 (Value.slice a0 len cap).cells.toList = some x) : BoolsIn W (.slice a0 len cap) := by
  rcases Go.Deep.open_bools un22 un4 ce4 hf with ⟨hcs, hx⟩ | ⟨a, len', cap', V, hcs, _, hl, hm, hx, hcell⟩
  · simp [Value.cells] at hcs
    obtain ⟨rfl, rfl, rfl⟩ := hcs
    exact ⟨[], .nils, .inl ⟨rfl, rfl⟩, .nils⟩
  · simp [Value.cells] at hcs
    obtain ⟨rfl, rfl, rfl⟩ := hcs
    simp only [Value.okWide, un22, Cell.okWide, Cell.ok] at hok
    obtain ⟨b, o, arr, T, fr, rfl, ha, ho⟩ := has_off hok.2.2
    have hc : ∀ i, i < cap → W.cell? ⟨b, o + i, none⟩ = some (.bool (V i)) := fun i hi => by rw [← Go.WideShapes.add_plain]; exact hcell i hi
    have hsz : o + cap ≤ arr.size := by
      by_cases h0 : cap = 0
      · omega
      · have := cell_bound ha (hc (cap - 1) (by omega)); omega
    refine ⟨(List.range len).map V, .sl 0 0 1 ((List.range len).map fun i => .v (.bool (V i))), .inr ⟨0, 0, ?_⟩, row_in ha hsz hl (fun i => .bool (V i)) (fun _ => rfl) (fun i hi => hc i (by omega))⟩
    rw [List.map_map]; rfl
theorem reads_any (v0 : Value) (s : ByteArray) (w : World) (h0 : BoolsIn w v0) (hr : RngIn w) (hp : PowIn w) : Calls Tryd.prog 3 #[v0, .string s] w fun x w' => x = .returned (.bool true) ∧ Below w.heap.size w w' := by
  obtain ⟨bs, na, hn, hv⟩ := h0
  obtain ⟨⟨l⟩⟩ := s
  refine callsW_true (vs := [v0, .string ⟨⟨l⟩⟩]) (reads_w feed_kn na bs l hn St0) (by kernel_rfl) (gz_of hr hp) ⟨rfl, fun k hk h' => ?_⟩
  match k, hk with
  | 0, _ => exact hv
  | 1, _ => exact .v (.string ⟨⟨l⟩⟩) rfl
end Go.Ax
noncomputable section
namespace Go.Ax
open Go.RowKit Go.Proofs
set_option linter.unusedVariables false
set_option linter.unusedSimpArgs false
set_option maxRecDepth 100000
theorem b48 {d : Nat} (h : d < 10) : (UInt8.ofNat (48 + d)).toNat = 48 + d := by
  rw [UInt8.toNat_ofNat']; omega
theorem dig_b {d : Nat} (h : d < 10) : digB (UInt8.ofNat (48 + d)) = true := by
  unfold digB; rw [b48 h]; simp; omega
theorem dd_facts : ∀ (m u : Nat), u < m → (Lib.decDigits u).all digB = true ∧ numV 0 (Lib.decDigits u) = u ∧ Lib.decDigits u ≠ [] ∧ (u ≠ 0 → ∀ b, (Lib.decDigits u).head? = some b → b ≠ 48)
  | 0, u, h => absurd h (Nat.not_lt_zero u)
  | m + 1, u, h => by
    by_cases h1 : u < 10
    · rw [Lib.decDigits_one h1]
      refine ⟨by simp only [List.all_cons, List.all_nil, dig_b h1, Bool.and_self], ?_, by simp, fun h0 b hb => ?_⟩
      · show 0 * 10 + ((UInt8.ofNat (48 + u)).toNat - 48) = u; rw [b48 h1]; omega
      · simp only [List.head?_cons, Option.some.injEq] at hb
        rintro rfl
        have := b48 h1
        rw [hb] at this
        have : (48 : UInt8).toNat = 48 := rfl
        omega
    · obtain ⟨i1, i2, i3, i4⟩ := dd_facts m (u / 10) (by omega)
      have e : Lib.decDigits u = Lib.decDigits (u / 10) ++ [UInt8.ofNat (48 + u % 10)] := by rw [Lib.decDigits, dif_neg h1]
      have hd : u % 10 < 10 := Nat.mod_lt _ (by omega)
      rw [e]
      refine ⟨by rw [List.all_append, i1]; simp only [List.all_cons, List.all_nil, dig_b hd, Bool.and_self], ?_, by simp, fun h0 b hb => ?_⟩
      · rw [numV_snoc, i2, b48 hd]; omega
      · refine i4 (by omega) b ?_
        cases hx : Lib.decDigits (u / 10) with
        | nil => exact absurd hx i3
        | cons x xs => rw [hx] at hb; exact hb
theorem dd_zero : Lib.decDigits 0 = [48] := by rw [Lib.decDigits_one (by omega)]; rfl
theorem no45 {s : List UInt8} (h : s.all digB = true) : s.head? ≠ some 45 := by
  cases s with
  | nil => simp
  | cons x xs =>
    intro hx
    simp only [List.head?_cons, Option.some.injEq] at hx
    subst hx
    simp only [List.all_cons, Bool.and_eq_true] at h
    exact absurd h.1 (by decide)
theorem num_back (n : Int) (h : -9223372036854775808 ≤ n ∧ n ≤ 9223372036854775807) : numF (Lib.itoa n) = (n, 0) := by
  unfold Lib.itoa
  by_cases hn : n < 0
  · rw [if_pos hn]
    obtain ⟨i1, i2, i3, i4⟩ := dd_facts (n.natAbs + 1) n.natAbs (by omega)
    unfold numF
    have e : ((45 :: Lib.decDigits n.natAbs).head? = some 45) := rfl
    simp only [e, if_true, List.drop_succ_cons, List.drop_zero]
    rw [if_neg, if_neg, if_pos, i2]
    · refine Prod.ext ?_ rfl; show -((n.natAbs : Nat) : Int) = n; omega
    · rw [i2]; omega
    · rw [i1]; decide
    · rintro (h1 | ⟨h1, _⟩)
      · exact i3 h1
      · exact i4 (by omega) _ h1 rfl
  · rw [if_neg hn]
    obtain ⟨i1, i2, i3, i4⟩ := dd_facts (n.toNat + 1) n.toNat (by omega)
    have e := no45 i1
    unfold numF
    simp only [e, if_false]
    rw [if_neg, if_neg, if_pos, i2]
    · refine Prod.ext ?_ rfl; show ((n.toNat : Nat) : Int) = n; omega
    · rw [i2]; omega
    · rw [i1]; decide
    · rintro (h1 | ⟨h1, h2⟩)
      · exact i3 h1
      · by_cases h0 : n.toNat = 0
        · rw [h0, dd_zero] at h2; exact h2 rfl
        · exact i4 h0 _ h1 rfl
theorem val_back (v : Int) (t : Bool) (h : -9223372036854775808 ≤ v ∧ v ≤ 9223372036854775807) (ht : t = true → v = 0 ∨ v = 1) : valF (wordF v t) t = (v, 0) := by
  unfold valF wordF
  cases t with
  | false => simp only [Bool.false_eq_true, if_false]; exact num_back v h
  | true => rcases ht rfl with rfl | rfl <;> rfl
def plainB (b : UInt8) : Prop := b ≠ 32 ∧ b ≠ 10
theorem dig_plain {b : UInt8} (h : digB b = true) : plainB b := by
  refine ⟨?_, ?_⟩ <;> (rintro rfl; exact absurd h (by decide))
theorem word_plain (v : Int) (t : Bool) : (∀ b ∈ wordF v t, plainB b) ∧ wordF v t ≠ [] := by
  unfold wordF
  split
  · split
    · refine ⟨?_, by simp⟩
      intro b hb
      simp only [List.mem_cons, List.not_mem_nil, or_false] at hb
      rcases hb with rfl | rfl | rfl | rfl | rfl <;> exact ⟨by decide, by decide⟩
    · refine ⟨?_, by simp⟩
      intro b hb
      simp only [List.mem_cons, List.not_mem_nil, or_false] at hb
      rcases hb with rfl | rfl | rfl | rfl <;> exact ⟨by decide, by decide⟩
  · unfold Lib.itoa
    split
    · obtain ⟨i1, _, i3, _⟩ := dd_facts (v.natAbs + 1) v.natAbs (by omega)
      refine ⟨?_, by simp⟩
      intro b hb
      rcases List.mem_cons.1 hb with rfl | hb
      · exact ⟨by decide, by decide⟩
      · exact dig_plain (List.all_eq_true.1 i1 b hb)
    · obtain ⟨i1, _, i3, _⟩ := dd_facts (v.toNat + 1) v.toNat (by omega)
      exact ⟨fun b hb => dig_plain (List.all_eq_true.1 i1 b hb), i3⟩
theorem split_one (c : UInt8) : ∀ w : List UInt8, (∀ b ∈ w, b ≠ c) → splitB c w = [w]
  | [], _ => rfl
  | b :: w, h => by
    rw [splitB, if_neg (h b (List.mem_cons_self ..)), split_one c w fun x hx => h x (List.mem_cons_of_mem _ hx)]
theorem split_front (c : UInt8) (r : List UInt8) : ∀ w : List UInt8, (∀ b ∈ w, b ≠ c) → splitB c (w ++ c :: r) = w :: splitB c r
  | [], _ => by rw [List.nil_append, splitB, if_pos rfl]
  | b :: w, h => by
    rw [List.cons_append, splitB, if_neg (h b (List.mem_cons_self ..)), split_front c r w fun x hx => h x (List.mem_cons_of_mem _ hx)]
theorem split_snoc (c : UInt8) (w : List UInt8) (hw : ∀ b ∈ w, b ≠ c) : ∀ x : List UInt8, splitB c (x ++ c :: w) = splitB c x ++ [w]
  | [] => by
    show splitB c (c :: w) = [[]] ++ [w]
    rw [splitB, if_pos rfl, split_one c w hw]; rfl
  | b :: x => by
    have ih := split_snoc c w hw x
    rw [List.cons_append, splitB, splitB]
    by_cases hb : b = c
    · rw [if_pos hb, if_pos hb, ih]; rfl
    · rw [if_neg hb, if_neg hb, ih]
      cases hs : splitB c x with
      | nil => exact absurd hs (split_ne c x)
      | cons y ys => rfl
theorem split_line (ts : List Bool) (vs : List Int) : ∀ j, splitB 32 (lineTo ts vs (j + 1)) = (List.range (j + 1)).map fun i => wordF (vs.getD i 0) (ts.getD i false)
  | 0 => by
    have hw := (word_plain (vs.getD 0 0) (ts.getD 0 false)).1
    show splitB 32 (([] ++ []) ++ wordF (vs.getD 0 0) (ts.getD 0 false)) = _
    rw [List.append_nil, List.nil_append, split_one 32 _ fun b hb => (hw b hb).1]; rfl
  | j + 1 => by
    have ih := split_line ts vs j
    have hw := (word_plain (vs.getD (j + 1) 0) (ts.getD (j + 1) false)).1
    rw [lineTo, if_neg (by omega), List.append_assoc]
    show splitB 32 (lineTo ts vs (j + 1) ++ 32 :: wordF _ _) = _
    rw [split_snoc 32 _ (fun b hb => (hw b hb).1), ih, List.range_succ (n := j + 1), List.map_append]; rfl
/-- A row's values are of its types. -/
def okRow : List Bool → List Int → Prop
  | [], [] => True
  | t :: ts, v :: vs => (-9223372036854775808 ≤ v ∧ v ≤ 9223372036854775807) ∧ (t = true → v = 0 ∨ v = 1) ∧ okRow ts vs
  | _, _ => False
theorem rows_back : ∀ (ts : List Bool) (vs : List Int), okRow ts vs → rowsF ts ((List.range ts.length).map fun i => wordF (vs.getD i 0) (ts.getD i false)) = (vs, 0)
  | [], [], _ => rfl
  | t :: ts, v :: vs, h => by
    have ih := rows_back ts vs h.2.2
    rw [List.length_cons, List.range_succ_eq_map, List.map_cons, List.map_map]
    have e : ((fun i => wordF ((v :: vs).getD i 0) ((t :: ts).getD i false)) ∘ Nat.succ) = fun i => wordF (vs.getD i 0) (ts.getD i false) := rfl
    rw [e, rowsF]
    have hv : valF (wordF ((v :: vs).getD 0 0) ((t :: ts).getD 0 false)) t = (v, 0) := val_back v t h.1 h.2.1
    rw [hv, ih]; rfl
  | [], _ :: _, h => h.elim
  | _ :: _, [], h => h.elim
theorem row_back (ts : List Bool) (vs : List Int) (h : okRow ts vs) : rowF ts (lineF ts vs) = (vs, 0) := by
  unfold rowF lineF
  by_cases ht : ts = []
  · rw [if_pos ht, if_pos ht]
    subst ht
    cases vs with
    | nil => rfl
    | cons _ _ => exact h.elim
  · rw [if_neg ht, if_neg ht]
    obtain ⟨n, hn⟩ : ∃ n, ts.length = n + 1 := ⟨ts.length - 1, by have : ts.length ≠ 0 := fun h0 => ht (List.length_eq_zero_iff.1 h0); omega⟩
    rw [hn, split_line, ← hn, rows_back ts vs h]
theorem line_plain (ts : List Bool) (vs : List Int) : ∀ j, ∀ b ∈ lineTo ts vs j, b ≠ 10
  | 0, b, h => by cases h
  | j + 1, b, h => by
    rw [lineTo] at h
    rcases List.mem_append.1 h with h | h
    · rcases List.mem_append.1 h with h | h
      · exact line_plain ts vs j b h
      · split at h
        · cases h
        · simp only [List.mem_cons, List.not_mem_nil, or_false] at h; subst h; decide
    · exact ((word_plain _ _).1 b h).2
theorem lineF_plain (ts : List Bool) (vs : List Int) : (∀ b ∈ lineF ts vs, b ≠ 10) ∧ lineF ts vs ≠ [] := by
  unfold lineF
  by_cases ht : ts = []
  · rw [if_pos ht]
    exact ⟨fun b hb => by simp only [List.mem_cons, List.not_mem_nil, or_false] at hb; subst hb; decide, by simp⟩
  · rw [if_neg ht]
    refine ⟨line_plain ts vs _, ?_⟩
    obtain ⟨n, hn⟩ : ∃ n, ts.length = n + 1 := ⟨ts.length - 1, by have : ts.length ≠ 0 := fun h0 => ht (List.length_eq_zero_iff.1 h0); omega⟩
    rw [hn, lineTo]
    intro h
    exact (word_plain _ _).2 (List.append_eq_nil_iff.1 h).2
theorem join_two (l m : List UInt8) (r : List (List UInt8)) : Lib.join (l :: m :: r) [10, 10] = l ++ 10 :: 10 :: Lib.join (m :: r) [10, 10] := by
  rw [Lib.join_cons, Lib.join_cons]
  simp [Lib.joinTail]
/-- Rows told, an empty line between, are read again. -/
theorem lines_back (ts : List Bool) : ∀ (rows : List (List Int)) (vs : List Int) (k n : Nat), n + rows.length + 1 ≤ 200 → okRow ts vs → (∀ r ∈ rows, okRow ts r) → linesF ts k n (splitB 10 (Lib.join ((vs :: rows).map (lineF ts)) [10, 10])) = (vs :: rows, -1, 0)
  | [], vs, k, n, hn, hv, hr => by
    obtain ⟨p1, p2⟩ := lineF_plain ts vs
    show linesF ts k n (splitB 10 (Lib.join [lineF ts vs] [10, 10])) = _
    rw [Lib.join_one, split_one 10 _ p1, linesF, if_neg p2, if_neg (by simp at hn; omega), row_back ts vs hv]; rfl
  | r :: rows, vs, k, n, hn, hv, hr => by
    obtain ⟨p1, p2⟩ := lineF_plain ts vs
    have ih := lines_back ts rows r (k + 1 + 1) (n + 1) (by simp only [List.length_cons] at hn; omega) (hr r (List.mem_cons_self ..)) fun r' h' => hr r' (List.mem_cons_of_mem _ h')
    simp only [List.map_cons] at ih ⊢
    rw [join_two, split_front 10 _ _ p1, splitB, if_pos rfl, linesF, if_neg p2, if_neg (by omega), row_back ts vs hv, lines_blank, ih]; rfl
theorem lines_back0 (ts : List Bool) (rows : List (List Int)) (hn : rows.length ≤ 200) (hr : ∀ r ∈ rows, okRow ts r) : linesF ts 0 0 (splitB 10 (Lib.join (rows.map (lineF ts)) [10, 10])) = (rows, -1, 0) := by
  cases rows with
  | nil => rfl
  | cons vs rows => exact lines_back ts rows vs 0 0 (by simp only [List.length_cons] at hn; omega) (hr vs (List.mem_cons_self ..)) fun r h => hr r (List.mem_cons_of_mem _ h)
end Go.Ax
noncomputable section
namespace Go.Ax
open Go.RowKit Go.Proofs
set_option linter.unusedVariables false
set_option linter.unusedSimpArgs false
set_option maxRecDepth 100000
theorem and_any (x : Int) (m : Nat) (hm : m < 65536) : ∃ n : Nat, n ≤ m ∧ bits .and .i64 x (m : Int) = (n : Int) := by
  unfold bits
  simp only
  have h : (BitVec.ofInt IntKind.i64.bits x &&& BitVec.ofInt IntKind.i64.bits (m : Int)).toNat ≤ m := by
    rw [BitVec.toNat_and]
    refine Nat.le_trans Nat.and_le_right ?_
    have e : (BitVec.ofInt IntKind.i64.bits (m : Int)).toNat = m := by
      rw [BitVec.ofInt_natCast, BitVec.toNat_ofNat]
      exact Nat.mod_eq_of_lt (Nat.lt_of_lt_of_le hm (by decide))
    rw [e]; exact Nat.le_refl _
  exact ⟨_, h, IntWalk.i64_in _ (by omega)⟩
def andO (r : OR) (S : St) (c : Int) (x : Option AV) : OR := match x with
  | some (.v (.int .i64 a)) => .val (.v (.int .i64 (bits .and .i64 a c))) S
  | _ => r
theorem andO_i (r : OR) (S : St) (c a : Int) : andO r S c (some (.v (.int .i64 a))) = .val (.v (.int .i64 (bits .and .i64 a c))) S := _root_.id rfl
theorem fb_and (a c : Int) : fastBin .and (.v (.int .i64 a)) (.v (.int .i64 c)) = none := by simp [fastBin]
theorem and2_eq (F : Operand → Value) (dst : Option Tmp) (k : Tmp) (c : Int) (ty ty2 : TypeId) (pos : String) (af : Array Edge) (gd : Option (Nat × Bool)) : execOp F { dst := dst, op := .binOp .and 2 (.tmp k) (.const (.int .i64 c)) ty2, type := ty, pos := pos, after := af, guard := gd } = execOp (maxG (F (.tmp k)) (F (.const (.int .i64 c)))) { dst := none, op := .binOp .and 2 (.tmp 0) (.tmp 1) 2, type := ty, pos := "", after := #[], guard := none } := by kernel_rfl
theorem and2_val (a c : Int) (ty : TypeId) : pureN Tryd.prog 4000 (execOp (maxG (.int .i64 a) (.int .i64 c)) { dst := none, op := .binOp .and 2 (.tmp 0) (.tmp 1) 2, type := ty, pos := "", after := #[], guard := none }) = some (.int .i64 (bits .and .i64 a c)) := by kernel_rfl
theorem eqOr_and2 (f : T AV) (S : St) (dst : Option Tmp) (k : Tmp) (c x : Int) (ty ty2 : TypeId) (pos : String) (af : Array Edge) (gd : Option (Nat × Bool)) :
    eqOr Tryd.prog gZ f S { dst := dst, op := .binOp .and 2 (.tmp k) (.const (.int .i64 c)) ty2, type := ty, pos := pos, after := af, guard := gd } .and 2 (.v (.int .i64 x)) (.v (.int .i64 c)) = andO (eqOrX Tryd.prog gZ f S { dst := dst, op := .binOp .and 2 (.tmp k) (.const (.int .i64 c)) ty2, type := ty, pos := pos, after := af, guard := gd } .and 2 (.v (.int .i64 x)) (.v (.int .i64 c))) S c (f.get k) := by
  unfold andO
  split
  · rename_i a h1
    have hg1 : groundO gZ f (.tmp k) = some (.int .i64 a) := by unfold groundO; simp only [evalO, h1]; rfl
    have hg2 : groundO gZ f (.const (.int .i64 c)) = some (.int .i64 c) := rfl
    have h0 : fastEq Tryd.prog .and 2 (.v (.int .i64 x)) (.v (.int .i64 c)) = none := rfl
    unfold eqOr
    rw [h0]
    simp only
    unfold ground
    have hall : ((Op.binOp .and 2 (.tmp k) (.const (.int .i64 c)) ty2 : Op).operands.toList.all fun x => (groundO gZ f x).isSome) = true := by
      show ([Operand.tmp k, Operand.const (.int .i64 c)].all fun x => (groundO gZ f x).isSome) = true
      simp only [List.all_cons, List.all_nil, hg1, hg2, Option.isSome_some, Bool.and_self]
    refine (if_pos hall).trans ?_
    rw [and2_eq]
    have e1 : (groundO gZ f (.tmp k)).getD undef = .int .i64 a := by rw [hg1]; rfl
    have e2 : (groundO gZ f (.const (.int .i64 c))).getD undef = .int .i64 c := by rw [hg2]; rfl
    simp only [e1, e2, and2_val]
    rfl
  · rfl
theorem and_bit (x : Int) : bits .and .i64 x 1 = 0 ∨ bits .and .i64 x 1 = 1 := by
  obtain ⟨n, h1, h2⟩ := and_any x 1 (by omega)
  have h2 : bits .and .i64 x 1 = (n : Int) := h2
  omega
def bitV (t : Bool) (v : Int) : Int := if t then bits .and .i64 v 1 else v
def lrLB : Code := match Tryd.f14.body with
  | some (.seq _ (.seq _ (.seq (.seq _ (.block _ (.loop c))) _))) => c
  | _ => .skip
theorem lrLB_is : (match lrLB with | .skip => false | _ => true) = true := by kernel_rfl
theorem rowOf_len (ts : List Bool) (vs : List Int) : ∀ j, (rowOf ts vs j).length = j
  | 0 => rfl
  | j + 1 => by rw [rowOf, List.length_append, rowOf_len ts vs j]; rfl
def boxS (S : St) (cs : List AV) : St := (S.newBox [.v (.string ⟨⟨[]⟩⟩), .v (.int .i64 0), .v (.bool false), .v (.bool false), .v (.string ⟨⟨[]⟩⟩), .v (.bool false)]).to S.next cs
theorem box_ro {S : St} {tk : Nat} {es : List AV} {sz : Nat} (h : RowO sz S tk es) (cs : List AV) : RowO sz (boxS S cs) tk es := by
  refine h.keep ?_ fun h1 h2 => ?_
  · unfold boxS; simp only [to_next, nb_next]; omega
  · unfold boxS; simp only [to_get, nb_get]
    rw [if_neg (by omega), if_neg (by omega)]
theorem lr_lp {ts : List Bool} {tok off : Nat} {es : List AV} (hd : dcls ts es) (hts : ts.length ≤ 1000) {w : AV} {vs : List Int} (hw : isInts w vs) : ∀ (n j tk : Nat) (t : T AV) (S : St), j + n = ts.length → RowO 1 S tk ((rowOf ts vs j).map i64A) → 2 ≤ S.next → t.get 1 = some w → t.get 5 = some (.sl tk 0 1 ((rowOf ts vs j).map i64A)) → t.get 11 = some (.sl tok off 6 es) → t.get 12 = some (.v (.int .i64 ((es.length : Nat) : Int))) → t.get 13 = some (.v (.int .i64 ((j : Nat) : Int))) →
    WX EZ 36 (.loop lrLB) ⟨t, []⟩ S (fun r => ∃ t' S' tk, r = .out (.exit 0) ⟨t', []⟩ S' ∧ t'.get 5 = some (.sl tk 0 1 ((rowOf ts vs ts.length).map i64A)))
  | 0, j, tk, t, S, hj, RO, hn, T1, T5, T11, T12, T13 => by
    refine WX_loop (W_sound ?_)
    have hel := dcls_len hd
    have hlt : decide ((j : Int) < (es.length : Int)) = false := by rw [decide_eq_false_iff_not]; omega
    simp (maxSteps := 2000000) (disch := omega) only [thenW_exit, W_skip, W_region, W_seq, W_cond, W_block, W_exit, seqQ_normal2, seqQ_exit2, WL_nil2, WL_cons, execL_val2, putL_some2, condW_f2, wantedA, exec1, evalO, T.get_set, ofOpt, neNil3, fb_lss, Nat.reduceLT, Nat.reduceEqDiff, if_true, if_false, true_and, Bool.false_eq_true, ez_P, lrLB, Tryd.f14, T11, T12, T13, hlt]
    have hj : j = ts.length := by omega
    subst hj
    exact ⟨_, _, tk, rfl, by simp only [T.get_set, Nat.reduceEqDiff, if_false, T5]⟩
  | n + 1, j, tk, t, S, hj, RO, hn, T1, T5, T11, T12, T13 => by
    refine WX_loop (W_sound ?_)
    have hel := dcls_len hd
    have hje : j < es.length := by omega
    have hlt : decide ((j : Int) < (es.length : Int)) = true := by rw [decide_eq_true_eq]; omega
    have hws := wrapS j (by omega)
    have hx := yxD tok off es j hje
    obtain ⟨nm, at_, fu, ck, of_, hdj⟩ := dcls_get hd j (by omega) hje
    rw [hdj] at hx
    simp only [cells_agg] at hx
    have hT : ts.getD j false = ts[j]'(by omega) := gd_in _ _ _ _
    rw [← hT] at hx
    have hvl := fun S => ints_len hw S
    have hst : rowOf ts vs (j + 1) = rowOf ts vs j ++ [bitV (ts.getD j false) (vs.getD j 0)] := rfl
    have hrl := rowOf_len ts vs j
    generalize hnew : bitV (ts.getD j false) (vs.getD j 0) = nv at *
    have hbn : 2 ≤ (boxS S [nm, at_, .v (.bool (ts.getD j false)), fu, ck, of_]).next := by unfold boxS; simp only [to_next, nb_next]; omega
    obtain ⟨bytes, hrt⟩ := ytI
    obtain ⟨S2, happ, ro2, n2, k2⟩ := push_row (E := EZ) hrt rfl rfl (box_ro RO [nm, at_, .v (.bool (ts.getD j false)), fu, ck, of_]) hbn (i64A nv) rfl (by rw [List.length_map, hrl]; omega)
    have hmm : (rowOf ts vs j).map i64A ++ [i64A nv] = (rowOf ts vs (j + 1)).map i64A := by rw [hst, List.map_append]; rfl
    rw [hmm] at happ ro2
    generalize hnx : (boxS S [nm, at_, .v (.bool (ts.getD j false)), fu, ck, of_]).next = nx at *
    have fin : ∀ (t' : T AV), t'.get 1 = some w → t'.get 5 = some (.sl nx 0 1 ((rowOf ts vs (j + 1)).map i64A)) → t'.get 11 = some (.sl tok off 6 es) → t'.get 12 = some (.v (.int .i64 ((es.length : Nat) : Int))) → t'.get 13 = some (.v (.int .i64 ((j + 1 : Nat) : Int))) → WX EZ 36 (.loop lrLB) ⟨t', []⟩ S2 (fun r => ∃ t' S' tk, r = .out (.exit 0) ⟨t', []⟩ S' ∧ t'.get 5 = some (.sl tk 0 1 ((rowOf ts vs ts.length).map i64A))) := fun t' => lr_lp hd hts hw n (j + 1) nx t' S2 (by omega) ro2 (by omega)
    generalize (rowOf ts vs (j + 1)).map i64A = nrow at *
    generalize (rowOf ts vs j).map i64A = orow at *
    simp only [boxS, i64A] at happ
    generalize ts.getD j false = tj at *
    by_cases hjv : j < vs.length
    · have h1 : decide ((j : Int) < (vs.length : Int)) = true := by rw [decide_eq_true_eq]; omega
      have hy := ints_idx hw j hjv
      generalize vs.getD j 0 = vj at *
      simp only [i64A] at hy
      cases tj with
      | false =>
        have hnv : vj = nv := hnew
        subst hnv
        simp (maxSteps := 2000000) (disch := omega) only [thenW_normal, thenW_exit, W_skip, W_region, W_seq, W_cond, W_block, W_exit, seqQ_normal2, seqQ_exit2, blockW_normal2, WL_nil2, WL_cons, execL_val2, execL_skip2, putL_none2, putL_some2, condW_t2, condW_f2, wantedA, exec1, evalO, T.get_set, callA, ofOpt, ofOptS, ofConst, partsA, neNil3, fb_lss, fb_add, Nat.reduceLT, Nat.reduceAdd, Nat.reduceEqDiff, if_true, if_false, true_and, List.getElem?_cons_succ, List.getElem?_cons_zero, List.nil_append, List.append_nil, Bool.false_eq_true, to_get, nb_get, cl1_box, vstB_agg, List.length_cons, List.length_nil, Nat.zero_add, Nat.reduceLeDiff, List.drop_succ_cons, List.drop_nil, List.take_succ_cons, List.take_zero, and_self, ez_P, ez_G, lrLB, Tryd.f14, strS, neNil2, yle2, yl4, yleE, ysE, yaE, yfE_2, yrI_1, fb_and, eqOr_and2, andO_i, T1, T5, T11, T12, T13, hlt, hx, hvl, h1, hy, happ, hws]
        refine fin _ ?_ ?_ ?_ ?_ ?_
        · simp only [T.get_set, Nat.reduceEqDiff, if_false, T1]
        · simp only [T.get_set, Nat.reduceEqDiff, if_true, if_false] <;> rfl
        · simp only [T.get_set, Nat.reduceEqDiff, if_false, T11]
        · simp only [T.get_set, Nat.reduceEqDiff, if_false, T12]
        · simp only [T.get_set, Nat.reduceEqDiff, if_true, if_false]
      | true =>
        have hnv : bits .and .i64 vj 1 = nv := hnew
        simp (maxSteps := 2000000) (disch := omega) only [thenW_normal, thenW_exit, W_skip, W_region, W_seq, W_cond, W_block, W_exit, seqQ_normal2, seqQ_exit2, blockW_normal2, WL_nil2, WL_cons, execL_val2, execL_skip2, putL_none2, putL_some2, condW_t2, wantedA, exec1, evalO, T.get_set, callA, ofOpt, ofOptS, ofConst, partsA, neNil3, fb_lss, fb_add, Nat.reduceLT, Nat.reduceAdd, Nat.reduceEqDiff, if_true, if_false, true_and, List.getElem?_cons_succ, List.getElem?_cons_zero, List.nil_append, List.append_nil, Bool.false_eq_true, to_get, nb_get, cl1_box, vstB_agg, List.length_cons, List.length_nil, Nat.zero_add, Nat.reduceLeDiff, List.drop_succ_cons, List.drop_nil, List.take_succ_cons, List.take_zero, and_self, ez_P, ez_G, lrLB, Tryd.f14, strS, neNil2, yle2, yl4, yleE, ysE, yaE, yfE_2, yrI_1, fb_and, eqOr_and2, andO_i, T1, T5, T11, T12, T13, hlt, hx, hvl, h1, hy, happ, hws, hnv]
        refine fin _ ?_ ?_ ?_ ?_ ?_
        · simp only [T.get_set, Nat.reduceEqDiff, if_false, T1]
        · simp only [T.get_set, Nat.reduceEqDiff, if_true, if_false] <;> rfl
        · simp only [T.get_set, Nat.reduceEqDiff, if_false, T11]
        · simp only [T.get_set, Nat.reduceEqDiff, if_false, T12]
        · simp only [T.get_set, Nat.reduceEqDiff, if_true, if_false]
    · have h1 : decide ((j : Int) < (vs.length : Int)) = false := by rw [decide_eq_false_iff_not]; omega
      have hz : vs.getD j 0 = 0 := gd_out _ _ _ (by omega)
      rw [hz] at hnew
      cases tj with
      | false =>
        have hnv : (0 : Int) = nv := hnew
        subst hnv
        simp (maxSteps := 2000000) (disch := omega) only [thenW_normal, thenW_exit, W_skip, W_region, W_seq, W_cond, W_block, W_exit, seqQ_normal2, seqQ_exit2, blockW_normal2, WL_nil2, WL_cons, execL_val2, execL_skip2, putL_none2, putL_some2, condW_t2, condW_f2, wantedA, exec1, evalO, T.get_set, callA, ofOpt, ofOptS, ofConst, partsA, neNil3, fb_lss, fb_add, Nat.reduceLT, Nat.reduceAdd, Nat.reduceEqDiff, if_true, if_false, true_and, List.getElem?_cons_succ, List.getElem?_cons_zero, List.nil_append, List.append_nil, Bool.false_eq_true, to_get, nb_get, cl1_box, vstB_agg, List.length_cons, List.length_nil, Nat.zero_add, Nat.reduceLeDiff, List.drop_succ_cons, List.drop_nil, List.take_succ_cons, List.take_zero, and_self, ez_P, ez_G, lrLB, Tryd.f14, strS, neNil2, yl4, yleE, ysE, yaE, yfE_2, yrI_1, fb_and, eqOr_and2, andO_i, T1, T5, T11, T12, T13, hlt, hx, hvl, h1, happ, hws]
        refine fin _ ?_ ?_ ?_ ?_ ?_
        · simp only [T.get_set, Nat.reduceEqDiff, if_false, T1]
        · simp only [T.get_set, Nat.reduceEqDiff, if_true, if_false] <;> rfl
        · simp only [T.get_set, Nat.reduceEqDiff, if_false, T11]
        · simp only [T.get_set, Nat.reduceEqDiff, if_false, T12]
        · simp only [T.get_set, Nat.reduceEqDiff, if_true, if_false]
      | true =>
        have hnv : bits .and .i64 0 1 = nv := hnew
        simp (maxSteps := 2000000) (disch := omega) only [thenW_normal, thenW_exit, W_skip, W_region, W_seq, W_cond, W_block, W_exit, seqQ_normal2, seqQ_exit2, blockW_normal2, WL_nil2, WL_cons, execL_val2, execL_skip2, putL_none2, putL_some2, condW_t2, condW_f2, wantedA, exec1, evalO, T.get_set, callA, ofOpt, ofOptS, ofConst, partsA, neNil3, fb_lss, fb_add, Nat.reduceLT, Nat.reduceAdd, Nat.reduceEqDiff, if_true, if_false, true_and, List.getElem?_cons_succ, List.getElem?_cons_zero, List.nil_append, List.append_nil, Bool.false_eq_true, to_get, nb_get, cl1_box, vstB_agg, List.length_cons, List.length_nil, Nat.zero_add, Nat.reduceLeDiff, List.drop_succ_cons, List.drop_nil, List.take_succ_cons, List.take_zero, and_self, ez_P, ez_G, lrLB, Tryd.f14, strS, neNil2, yl4, yleE, ysE, yaE, yfE_2, yrI_1, fb_and, eqOr_and2, andO_i, T1, T5, T11, T12, T13, hlt, hx, hvl, h1, happ, hws, hnv]
        refine fin _ ?_ ?_ ?_ ?_ ?_
        · simp only [T.get_set, Nat.reduceEqDiff, if_false, T1]
        · simp only [T.get_set, Nat.reduceEqDiff, if_true, if_false] <;> rfl
        · simp only [T.get_set, Nat.reduceEqDiff, if_false, T11]
        · simp only [T.get_set, Nat.reduceEqDiff, if_false, T12]
        · simp only [T.get_set, Nat.reduceEqDiff, if_true, if_false]
end Go.Ax
noncomputable section
namespace Go.Ax
open Go.RowKit Go.Proofs
set_option linter.unusedVariables false
set_option linter.unusedSimpArgs false
set_option maxRecDepth 100000
theorem lrow_fin {a0 a1 v a3 a4 a5 w : AV} {ts : List Bool} {vs : List Int} (hv : isDcls v ts) (hw : isInts w vs) {l : List Int} (he : l = rowOf ts vs ts.length) (tk : Nat) (S' : St) : ∃ a' S'', R.ret (.sl tk 0 1 (l.map i64A)) S' = R.ret a' S'' ∧ freeV a' = true ∧ SpecZ 14 [.agg [a0, a1, v, a3, a4, a5], w] (clean a') := by
  refine ⟨_, _, rfl, (ints_free l).1, ?_⟩
  intro b0 b1 v' b3 b4 b5 ts' w' vs' hq hd hi _
  injection hq with h3 h4
  injection h4 with h4 _
  simp only [AV.agg.injEq, List.cons.injEq, and_true] at h3
  obtain ⟨_, _, h3, _⟩ := h3
  subst h3; subst h4
  have e1 := isDcls_inj hv hd
  have e2 := isInts_inj hw hi
  subst e1; subst e2
  show AV.sl 0 0 1 (cleanL _) = _
  rw [(ints_free l).2, he]
theorem lrow_k (a0 a1 a3 a4 a5 w : AV) (bs : List Bool) (vs : List Int) (hw : isInts w vs) (h5 : bs.length ≤ 1000) : KnZ 14 [.agg [a0, a1, .sl 0 0 6 (bs.map declT), a3, a4, a5], w] := by
  refine bodyZ Tryd.f14 (by kernel_rfl) (by kernel_rfl) (show (_ : Nat) ≤ _ from by show (_ : Nat) ≤ _; simp [Tryd.f14]) ?_
  have lp := fun t S => lr_lp (tok := 0) (off := 0) (decls_is bs) h5 hw bs.length 0 1 t S (by omega) (.inl rfl)
  unfold lrLB at lp
  simp only [Tryd.f14, rowOf, List.map_nil] at lp
  have hel : (bs.map declT).length = bs.length := List.length_map ..
  generalize hL : bs.map declT = L at *
  simp (maxSteps := 2000000) (disch := omega) only [W_region, W_seq, W_block, W_loop, seqQ_normal2, WL_nil2, WL_cons, execL_val2, putL_some2, wantedA, exec1, evalO, initT, T.get_set, T.get_leaf, callA, ofOpt, ofConst, partsA, Nat.reduceLT, Nat.reduceEqDiff, if_true, if_false, true_and, Option.getD_some, List.getElem?_cons_succ, List.getElem?_cons_zero, nb_get, st0_get, st0_next, cl1_box, Nat.zero_add, noTup_agg, cells_agg, ez_P, Tryd.f14, ynD, yfN_2, yl25, yrI_0, initT]
  refine WX.mono (lp _ _ ?_ ?_ ?_ ?_ ?_ ?_) ?_
  · simp only [nb_next, st0_next]; omega
  · simp only [T.get_set, T.get_leaf, Nat.reduceEqDiff, if_true, if_false] <;> rfl
  · simp only [T.get_set, T.get_leaf, Nat.reduceEqDiff, if_true, if_false] <;> rfl
  · simp only [T.get_set, T.get_leaf, Nat.reduceEqDiff, if_true, if_false] <;> rfl
  · simp only [T.get_set, T.get_leaf, Nat.reduceEqDiff, if_true, if_false] <;> rfl
  · simp only [T.get_set, T.get_leaf, Nat.reduceEqDiff, if_true, if_false] <;> rfl
  rintro r' ⟨t', S', tk, rfl, r5⟩
  simp (maxSteps := 2000000) (disch := omega) only [W_region, W_seq, W_ret, seqQ_normal2, seqQ_exit2, blockW_exit2, WL_nil2, WL_cons, execL_val2, putL_some2, wantedA, exec1, evalO, T.get_set, ofOpt, finW_ret, giveW, resultsA, tupA, Nat.reduceLT, Nat.reduceEqDiff, if_true, if_false, true_and, r5]
  exact lrow_fin (.inr ⟨0, 0, L, rfl, hL ▸ decls_is bs⟩) hw rfl tk _
end Go.Ax
noncomputable section
namespace Go.Ax
open Go.RowKit Go.Proofs
set_option linter.unusedVariables false
set_option linter.unusedSimpArgs false
set_option maxRecDepth 100000
theorem okRow_at : ∀ (ts : List Bool) (l : List Int), l.length = ts.length → (∀ i, i < ts.length → (-9223372036854775808 ≤ l.getD i 0 ∧ l.getD i 0 ≤ 9223372036854775807) ∧ (ts.getD i false = true → l.getD i 0 = 0 ∨ l.getD i 0 = 1)) → okRow ts l
  | [], [], _, _ => trivial
  | t :: ts, v :: l, hl, h => by
    have h0 := h 0 (by simp)
    refine ⟨h0.1, h0.2, okRow_at ts l (by simpa using hl) fun i hi => ?_⟩
    exact h (i + 1) (by simp only [List.length_cons]; omega)
  | [], _ :: _, hl, _ => by simp at hl
  | _ :: _, [], hl, _ => by simp at hl
theorem rowOf_at (ts : List Bool) (vs : List Int) : ∀ (j i : Nat), i < j → (rowOf ts vs j).getD i 0 = bitV (ts.getD i false) (vs.getD i 0)
  | 0, i, h => absurd h (Nat.not_lt_zero i)
  | j + 1, i, h => by
    have hl := rowOf_len ts vs j
    rw [rowOf]
    by_cases hi : i < j
    · rw [← rowOf_at ts vs j i hi]
      simp only [List.getD, List.getElem?_append_left (show i < (rowOf ts vs j).length by omega)]
    · have e : i = j := by omega
      subst e
      simp only [List.getD, List.getElem?_append_right (show (rowOf ts vs i).length ≤ i by omega), hl, Nat.sub_self, List.getElem?_cons_zero, Option.getD_some]
      rfl
theorem rowOf_ok (ts : List Bool) (vs : List Int) (h : okInts vs) : okRow ts (rowOf ts vs ts.length) := by
  refine okRow_at ts _ (rowOf_len ts vs _) fun i hi => ?_
  rw [rowOf_at ts vs _ i hi]
  have hg := getD_ok h i
  unfold bitV
  cases ts.getD i false with
  | false => exact ⟨hg, fun h => by cases h⟩
  | true =>
    have hb := and_bit (vs.getD i 0)
    refine ⟨?_, fun _ => hb⟩
    rw [if_pos rfl]
    omega
theorem split_rep : ∀ n : Nat, splitB 10 ((List.replicate n ([53, 10] : List UInt8)).flatten) = List.replicate n [53] ++ [[]]
  | 0 => rfl
  | n + 1 => by
    rw [List.replicate_succ, List.flatten_cons]
    show splitB 10 ([53] ++ 10 :: (List.replicate n ([53, 10] : List UInt8)).flatten) = [53] :: (List.replicate n [53] ++ [[]])
    rw [split_front 10 _ [53] (by decide), split_rep n]
theorem row_5 : rowF [false] [53] = ([5], 0) := by kernel_rfl
theorem lines_rep : ∀ (n k m : Nat), m + n ≤ 200 → linesF [false] k m (List.replicate n [53] ++ [[]]) = (List.replicate n [5], -1, 0)
  | 0, k, m, h => rfl
  | n + 1, k, m, h => by
    rw [List.replicate_succ, List.cons_append, linesF, if_neg (by simp), if_neg (by omega), row_5, lines_rep n (k + 1) (m + 1) (by omega)]
    rfl
theorem lines_rep_full : ∀ (n k m : Nat), m ≤ 200 → 200 < m + n → linesF [false] k m (List.replicate n [53] ++ [[]]) = ([], ((k + (200 - m) : Nat) : Int), 14)
  | 0, k, m, h, h2 => by omega
  | n + 1, k, m, h, h2 => by
    rw [List.replicate_succ, List.cons_append, linesF, if_neg (by simp)]
    by_cases hm : m = 200
    · rw [if_pos hm, hm]; rfl
    · rw [if_neg hm, row_5, lines_rep_full n (k + 1) (m + 1) (by omega) (by omega)]
      have e : k + 1 + (200 - (m + 1)) = k + (200 - m) := by omega
      rw [e]; rfl
end Go.Ax
noncomputable section
namespace Go.Ax
open Go.RowKit Go.Proofs
set_option linter.unusedVariables false
set_option linter.unusedSimpArgs false
set_option maxRecDepth 100000
theorem and3_eq (F : Operand → Value) (dst : Option Tmp) (k : Tmp) (c : Int) (ty ty2 : TypeId) (pos : String) (af : Array Edge) (gd : Option (Nat × Bool)) : execOp F { dst := dst, op := .binOp .and 3 (.tmp k) (.const (.int .i64 c)) ty2, type := ty, pos := pos, after := af, guard := gd } = execOp (maxG (F (.tmp k)) (F (.const (.int .i64 c)))) { dst := none, op := .binOp .and 3 (.tmp 0) (.tmp 1) 3, type := ty, pos := "", after := #[], guard := none } := by kernel_rfl
theorem and3_val (a c : Int) (ty : TypeId) : pureN Tryd.prog 4000 (execOp (maxG (.int .i64 a) (.int .i64 c)) { dst := none, op := .binOp .and 3 (.tmp 0) (.tmp 1) 3, type := ty, pos := "", after := #[], guard := none }) = some (.int .i64 (bits .and .i64 a c)) := by kernel_rfl
theorem eqOr_and3 (f : T AV) (S : St) (dst : Option Tmp) (k : Tmp) (c x : Int) (ty ty2 : TypeId) (pos : String) (af : Array Edge) (gd : Option (Nat × Bool)) :
    eqOr Tryd.prog gZ f S { dst := dst, op := .binOp .and 3 (.tmp k) (.const (.int .i64 c)) ty2, type := ty, pos := pos, after := af, guard := gd } .and 3 (.v (.int .i64 x)) (.v (.int .i64 c)) = andO (eqOrX Tryd.prog gZ f S { dst := dst, op := .binOp .and 3 (.tmp k) (.const (.int .i64 c)) ty2, type := ty, pos := pos, after := af, guard := gd } .and 3 (.v (.int .i64 x)) (.v (.int .i64 c))) S c (f.get k) := by
  unfold andO
  split
  · rename_i a h1
    have hg1 : groundO gZ f (.tmp k) = some (.int .i64 a) := by unfold groundO; simp only [evalO, h1]; rfl
    have hg2 : groundO gZ f (.const (.int .i64 c)) = some (.int .i64 c) := rfl
    have h0 : fastEq Tryd.prog .and 3 (.v (.int .i64 x)) (.v (.int .i64 c)) = none := rfl
    unfold eqOr
    rw [h0]
    simp only
    unfold ground
    have hall : ((Op.binOp .and 3 (.tmp k) (.const (.int .i64 c)) ty2 : Op).operands.toList.all fun x => (groundO gZ f x).isSome) = true := by
      show ([Operand.tmp k, Operand.const (.int .i64 c)].all fun x => (groundO gZ f x).isSome) = true
      simp only [List.all_cons, List.all_nil, hg1, hg2, Option.isSome_some, Bool.and_self]
    refine (if_pos hall).trans ?_
    rw [and3_eq]
    have e1 : (groundO gZ f (.tmp k)).getD undef = .int .i64 a := by rw [hg1]; rfl
    have e2 : (groundO gZ f (.const (.int .i64 c))).getD undef = .int .i64 c := by rw [hg2]; rfl
    simp only [e1, e2, and3_val]
    rfl
  · rfl
theorem yrB_1n : oBuildSlice Tryd.prog 22 1 [(0, .v (.bool false))] = some (.sl 1 0 1 [.v (.bool false)]) := by kernel_rfl
theorem fnz_19 : ∃ fn, EZ.F 19 = some fn := Option.isSome_iff_exists.1 (by kernel_rfl)
theorem rep_flat (l : List UInt8) : ∀ n : Nat, repB n l = (List.replicate n l).flatten
  | 0 => rfl
  | n + 1 => by rw [repB, List.replicate_succ, List.flatten_cons, rep_flat l n]
theorem rep_u {S : St} {Q : R → Prop} {l : List UInt8} {n : Nat} (hl : l.length ≤ 1000) (hn : n ≤ 1000) (h : Q (.ret (strS (repB n l)) S)) : WC EZ 19 [strS l, i64A (n : Int)] S Q :=
  callZ (knRep l n hl hn) (by kernel_rfl) rfl rfl fun a _ _ hs => by
    have := hs l n rfl hl hn
    subst this
    exact h
theorem tmod211 (n : Nat) : ((n : Int).tmod 211) = ((n % 211 : Nat) : Int) := by
  rw [Int.ofNat_tmod]; rfl
theorem many_w (hF : FeedKn) (x : Int) (S : St) : WC EZ 6 [i64A x] S (fun r => ∃ S', r = .ret (.v (.bool true)) S') := by
  refine WC_fn Tryd.f6 (by kernel_rfl) (by kernel_rfl) (by kernel_rfl) (show (_ : Nat) ≤ _ from by show (_ : Nat) ≤ _; simp [Tryd.f6]) ?_
  obtain ⟨fn1, hf1⟩ := fnz_7
  obtain ⟨fn2, hf2⟩ := fnz_9
  obtain ⟨fn3, hf3⟩ := fnz_11
  obtain ⟨fn4, hf4⟩ := fnz_10
  obtain ⟨fn5, hf5⟩ := fnz_19
  obtain ⟨n0, hn0, hx⟩ := and_any x 255 (by omega)
  have hx : bits .and .i64 x 255 = (n0 : Int) := hx
  have hm := tmod211 n0
  have hz : (0 : Int) < 211 := by decide
  simp (maxSteps := 2000000) (disch := omega) only [W_region, W_seq, seqQ_normal2, WL_nil2, WL_cons, execL_val2, execL_enter2, putL_some2, wantedA, exec1, evalO, initT, callA, mapO, ofOpt, ofConst, Nat.reduceLT, true_and, Option.getD_some, List.append_nil, Tryd.f6, i64A, initT, hf1]
  refine aw_u hF ?_
  simp (maxSteps := 2000000) (disch := omega) only [W_skip, W_region, W_seq, W_cond, W_ret, seqQ_normal2, seqQ_ret2, WL_nil2, WL_cons, execL_val2, execL_enter2, putL_some2, retL_ret2, condW_f2, wantedA, exec1, evalO, T.get_set, T.get_leaf, callA, mapO, ofOpt, ofConst, partsA, neNil3, finW_ret, giveW, resultsA, tupA, notO_bool, Nat.reduceLT, Nat.reduceEqDiff, if_true, if_false, true_and, List.nil_append, List.append_nil, Bool.false_eq_true, Bool.not_true, ez_P, ez_G, gnot, neNil3, fb_and, eqOr_and3, andO_i, fb_rem, yrB_1n, hf2, hx, hm]
  have hn : n0 % 211 ≤ 210 := by omega
  generalize n0 % 211 = n at hn
  refine decls_u (bs := [false]) (.inr ⟨1, 0, rfl⟩) fun bs' hb => ?_
  have hb : bs' = [false] := hb
  subst hb
  generalize hL : [false].map declT = L
  simp (maxSteps := 2000000) (disch := omega) only [WL_cons, execL_enter2, putL_some2, retL_ret2, wantedA, exec1, evalO, T.get_set, T.get_leaf, callA, mapO, Nat.reduceLT, Nat.reduceEqDiff, if_true, if_false, true_and, List.nil_append, List.append_nil, hf3]
  subst hL
  refine use_own (bs := [false]) (by decide) ?_
  generalize hL : [false].map declT = L
  simp (maxSteps := 2000000) (disch := omega) only [WL_cons, execL_val2, execL_enter2, putL_some2, retL_ret2, wantedA, exec1, evalO, T.get_set, T.get_leaf, callA, mapO, ofOpt, ofConst, partsA, Nat.reduceLT, Nat.reduceEqDiff, if_true, if_false, true_and, List.nil_append, List.append_nil, ez_P, ybM_2, hf5]
  refine rep_u (l := [53, 10]) (by decide) (by omega) ?_
  unfold strS
  simp (maxSteps := 2000000) (disch := omega) only [WL_cons, execL_enter2, putL_some2, retL_ret2, wantedA, exec1, evalO, T.get_set, T.get_leaf, callA, mapO, Nat.reduceLT, Nat.reduceEqDiff, if_true, if_false, true_and, List.nil_append, List.append_nil, hf4]
  subst hL
  have hll : (repB n [53, 10]).length ≤ 100000 := by rw [rep_len]; simp only [List.length_cons, List.length_nil]; omega
  refine feed_u hF (bs := [false]) (l := repB n [53, 10]) (by decide) hll fun v hv => ?_
  rw [rep_flat, split_rep] at hv ⊢
  generalize hL : [false].map declT = L
  by_cases h200 : n ≤ 200
  · rw [lines_rep n 0 0 (by omega)] at hv ⊢
    have hgt : decide ((n : Int) > 200) = false := by rw [decide_eq_false_iff_not]; omega
    have hlv : ∀ S, oLen Tryd.prog S 27 v = some n := fun S => by rw [rows_len hv S, List.length_replicate]
    have h1 : ((n : Int) == (n : Int)) = true := by simp
    have h2 : ((-1 : Int) == -1) = true := rfl
    have h3 : (((0 : Nat) : Int) == 0) = true := rfl
    simp (maxSteps := 2000000) (disch := omega) only [W_skip, W_region, W_seq, W_cond, W_ret, seqQ_normal2, WL_nil2, WL_cons, execL_val2, putL_some2, retL_ret2, condW_f2, wantedA, exec1, evalO, T.get_set, T.get_leaf, callA, ofOpt, ofConst, neNil3, finW_ret, giveW, resultsA, tupA, fb_gtr, fb_eqlI, Nat.reduceLT, Nat.reduceEqDiff, if_true, if_false, true_and, List.getElem?_toArray, List.getElem?_cons_succ, List.getElem?_cons_zero, Option.bind_some, beq_self_eq_true, Bool.false_eq_true, oExtract, ez_P, i64A, oExtract, neNil3, neNil28, hgt, hlv, h3]
    exact ⟨_, rfl⟩
  · rw [lines_rep_full n 0 0 (by omega) (by omega)] at hv ⊢
    have hgt : decide ((n : Int) > 200) = true := by rw [decide_eq_true_eq]; omega
    have hlv : ∀ S, oLen Tryd.prog S 27 v = some 0 := fun S => rows_len hv S
    have h1 : (((0 : Nat) : Int) == 0) = true := rfl
    have h2 : (((0 + (200 - 0) : Nat) : Int) == 200) = true := rfl
    have h3 : (((14 : Nat) : Int) == 14) = true := rfl
    simp (maxSteps := 2000000) (disch := omega) only [W_skip, W_region, W_seq, W_cond, W_ret, seqQ_normal2, seqQ_ret2, WL_nil2, WL_cons, execL_val2, putL_some2, retL_ret2, condW_t2, wantedA, exec1, evalO, T.get_set, T.get_leaf, callA, ofOpt, ofConst, neNil3, finW_ret, giveW, resultsA, tupA, fb_gtr, fb_eqlI, Nat.reduceLT, Nat.reduceEqDiff, if_true, if_false, true_and, List.getElem?_toArray, List.getElem?_cons_succ, List.getElem?_cons_zero, Option.bind_some, beq_self_eq_true, Bool.false_eq_true, Nat.zero_add, Nat.reduceSub, oExtract, ez_P, i64A, oExtract, neNil3, neNil28, hgt, hlv, h1, h2, h3]
    exact ⟨_, rfl⟩
theorem many_any (x : Int) (w : World) (hr : RngIn w) (hp : PowIn w) : Calls Tryd.prog 6 #[.int .i64 x] w fun x w' => x = .returned (.bool true) ∧ Below w.heap.size w w' := by
  refine callsW_true (vs := [.int .i64 x]) (many_w feed_kn x St0) (by kernel_rfl) (gz_of hr hp) ⟨rfl, fun k hk h' => ?_⟩
  match k, hk with
  | 0, _ => exact .v (.int .i64 x) rfl
end Go.Ax
