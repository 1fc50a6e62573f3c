import Derived.Test.YtddjnjhhkffjgaaGreatDoorCoV2
noncomputable section
namespace Go.Ax
open Go.RowKit Go.Proofs
set_option linter.unusedVariables false
set_option linter.unusedSimpArgs false
set_option maxRecDepth 100000
theorem seq_run {E : Env} {D : Drawn} {ck : CallK} {m n : Nat} {a b : Code} {f : Fr} {S : St} : runC E D ck (m + 1) n (.seq a b) f S = match runC E D ck m n a f S with
    | .out .normal f' S' => runC E D ck m n b f' S'
    | r => r := rfl
theorem region_run {E : Env} {D : Drawn} {ck : CallK} {m n id : Nat} {ops : Array Oper} {f : Fr} {S : St} : runC E D ck (m + 1) n (.region id ops false) f S = runL E ck n ops ops.toList f S := rfl
theorem ret_run {E : Env} {D : Drawn} {ck : CallK} {m n : Nat} {f : Fr} {S : St} : runC E D ck (m + 1) n .ret f S = .out .ret f S := rfl
theorem runL_nil {E : Env} {ck : CallK} {n : Nat} {ops : Array Oper} {f : Fr} {S : St} : runL E ck n ops [] f S = .out .normal f S := rfl
theorem runL_cons {E : Env} {ck : CallK} {n : Nat} {ops : Array Oper} {o : Oper} {r : List Oper} {f : Fr} {S : St} : runL E ck n ops (o :: r) f S = match stepO E ck n ops o f S with
    | .out .normal f' S' => runL E ck n ops r f' S'
    | x => x := rfl
theorem e1_P : E1.P = Tryz.prog := rfl
theorem e1_G : E1.G = fun _ => none := rfl
theorem e46 : elemT Tryz.prog 46 = some (none, 49) := by kernel_rfl
theorem u46 : Tryz.prog.underlying 46 = some (.slice 49) := by kernel_rfl
theorem s49 : sizeT Tryz.prog 49 = some 2 := by kernel_rfl
theorem i49 : (Tryz.prog.info? 49).map (fun i => (i.zero, i.size, i.bytes)) = some (some (.agg #[.string ⟨#[]⟩, .bool false]), 2, 24) := by kernel_rfl
theorem z49 : zeroA Tryz.prog 49 = some (.agg [.v (.string ⟨#[]⟩), .v (.bool false)]) := by kernel_rfl
def G (s : ByteArray) (b : Bool) : AV := .agg [.v (.string s), .v (.bool b)]
theorem b49 (s : ByteArray) (b : Bool) : oBuild Tryz.prog 49 [(0, .v (.string s)), (1, .v (.bool b))] = some (G s b) := by rfl
theorem bs46 (g : AV) (hn : g.noTup = true) (hl : g.cells.length = 2) : oBuildSlice Tryz.prog 46 1 [(0, g)] = some (.sl 1 0 2 [g]) := by
  simp [oBuildSlice, e46, s49, z49, hn, hl]
theorem oLen_row (S : St) (a : AV) (es : List AV) (ha : a = .nils ∧ es = [] ∨ ∃ tok off, a = .sl tok off 2 es) : oLen Tryz.prog S 46 a = some es.length := by
  rcases ha with ⟨rfl, rfl⟩ | ⟨tok, off, rfl⟩ <;> simp [oLen, u46]
/-- A row's beginning that is the whole of it. -/
def fullRow (a : AV) : AV := match a with
  | .sl _ _ sz es => .sl 1 0 sz es
  | x => x
theorem oSlice3_full (a : AV) (es : List AV) (ha : a = .nils ∧ es = [] ∨ ∃ tok off, a = .sl tok off 2 es) : oSlice3 Tryz.prog 46 a (.v (.int .i64 es.length)) (.v (.int .i64 es.length)) = some (fullRow a) := by
  rcases ha with ⟨rfl, rfl⟩ | ⟨tok, off, rfl⟩ <;> simp [oSlice3, e46, s49, boundA, fullRow]
theorem append_full (S : St) (a g : AV) (es : List AV) (ha : a = .nils ∧ es = [] ∨ ∃ tok off, a = .sl tok off 2 es) (hlen : es.length ≤ 1000) : oAppend Tryz.prog S 46 46 (fullRow a) (.sl 1 0 2 [g]) = some (.sl S.next 0 2 (es ++ [g]), S.grown 1 ((es ++ [g]).length * 2)) := by
  obtain ⟨i, hi, hz0, hz1, hz2⟩ := infoG_parts i49
  rcases ha with ⟨rfl, rfl⟩ | ⟨tok, off, rfl⟩
  · simp [oAppend, e46, hi, hz0, hz1, hz2, srcA, u46, fullRow, Value.cells]
  · have h1 : (es.length + 1) * 24 ≤ 140737488355328 := by omega
    have h2 : es.length + 1 ≤ 9223372036854775807 := by omega
    simp [oAppend, e46, hi, hz0, hz1, hz2, srcA, u46, fullRow, Value.cells, tipOk, h1, h2]
set_option maxHeartbeats 4000000 in
theorem on_run (m : Nat) (ck : CallK) (a : AV) (es : List AV) (s : ByteArray) (b : Bool) (S : St) (ha : a = .nils ∧ es = [] ∨ ∃ tok off, a = .sl tok off 2 es) (hlen : es.length ≤ 1000) :
    ∃ f, runC E1 (drawnNew E1) ck (m + 10) 18 ((Tryz.f18.body).getD .skip) ⟨initT [a, .v (.string s), .v (.bool b)] 0, []⟩ S = .out .ret ⟨f, []⟩ (S.grown 1 ((es ++ [G s b]).length * 2)) ∧ f.get 6 = some (.sl S.next 0 2 (es ++ [G s b])) := by
  have hL := fun S => oLen_row S a es ha
  have h3 := oSlice3_full a es ha
  have hA := fun S g => append_full S a g es ha hlen
  have hbs : oBuildSlice Tryz.prog 46 1 [(0, G s b)] = some (.sl 1 0 2 [G s b]) := bs46 _ rfl rfl
  simp only [Tryz.f18, Option.getD_some, seq_run, region_run, ret_run, runL_cons, runL_nil, stepO, wantedA, exec1, evalO, initT, T.get_set, T.get_leaf, putA, callA, mapO, ofOpt, ofConst, e1_P, e1_G, Nat.reduceLT, Nat.reduceAdd, Nat.reduceEqDiff, if_true, if_false, reduceIte, slice3A, partsA, hL, h3, hA, hbs, b49, ofOptS]
  exact ⟨_, rfl, by rw [T.get_set, if_pos rfl]⟩
theorem fs49 : ∃ f0 f1 : Field, fieldsOf Tryz.prog 49 = some #[f0, f1] ∧ (f0.name = "Name" ∧ f0.type = 9 ∧ f0.offset = 0) ∧ f1.name = "Off" ∧ f1.type = 4 ∧ f1.offset = 1 :=
  ⟨_, _, rfl, ⟨rfl, rfl, rfl⟩, rfl, rfl, rfl⟩
theorem sh49 : Tryz.prog.stoodInHeld 49 = false := by kernel_rfl
theorem eg49 : Tryz.prog.eqGuardType Tryz.prog.depth 49 = false := by kernel_rfl
theorem u9 : Tryz.prog.underlying 9 = some .string := by kernel_rfl
theorem u4 : Tryz.prog.underlying 4 = some .bool := by kernel_rfl
theorem a9 : isAggT Tryz.prog 9 = some false := by kernel_rfl
theorem a4 : isAggT Tryz.prog 4 = some false := by kernel_rfl
theorem eqBytes_dec (s u : ByteArray) : eqBytes s.data.toList u.data.toList = decide (s = u) := by
  rw [eqBytes_eq]
  by_cases h : s = u
  · subst h; simp
  · rw [decide_eq_false h, beq_eq_false_iff_ne]
    intro e; apply h
    obtain ⟨⟨x⟩⟩ := s; obtain ⟨⟨y⟩⟩ := u
    simp at e; rw [e]
theorem flds49 (s s' : ByteArray) (b b' : Bool) (f0 f1 : Field) (h0 : f0.name = "Name" ∧ f0.type = 9 ∧ f0.offset = 0) (h1 : f1.name = "Off" ∧ f1.type = 4 ∧ f1.offset = 1) :
    eqFlds Tryz.prog [.v (.string s), .v (.bool b)] [.v (.string s'), .v (.bool b')] [f0, f1] = some (decide (s = s') && decide (b = b')) := by
  obtain ⟨n0, t0, o0⟩ := h0
  obtain ⟨n1, t1, o1⟩ := h1
  simp only [eqFlds, n0, t0, o0, n1, t1, o1, a9, a4, eqCell, u9, u4, eqBytes_dec]
  by_cases hs : s = s' <;> cases b <;> cases b' <;> simp [hs]
theorem neq49 (s s' : ByteArray) (b b' : Bool) : fastEq Tryz.prog .neq 49 (G s b) (G s' b') = some (.v (.bool (!(decide (s = s') && decide (b = b'))))) := by
  obtain ⟨f0, f1, hf, h0, h1⟩ := fs49
  simp only [fastEq, G, hf, sh49, eg49, flds49 s s' b b' f0 f1 h0 h1, and_self, if_true]
theorem eql49 (s s' : ByteArray) (b b' : Bool) : fastEq Tryz.prog .eql 49 (G s b) (G s' b') = some (.v (.bool (decide (s = s') && decide (b = b')))) := by
  obtain ⟨f0, f1, hf, h0, h1⟩ := fs49
  simp only [fastEq, G, hf, sh49, eg49, flds49 s s' b b' f0 f1 h0 h1, and_self, if_true]
theorem neNil49 (a b : AV) : neNil Tryz.prog 49 a b = false := by
  have h : ∃ fs, Tryz.prog.underlying 49 = some (.struct fs) := ⟨_, rfl⟩
  obtain ⟨fs, h⟩ := h
  unfold neNil; rw [h]
theorem neNil3 (a b : AV) : neNil Tryz.prog 3 a b = false := by unfold neNil; rw [Tryz.underlying3]
/-- A drawn region of looks alone. -/
theorem drawn_looks {E : Env} {ck : CallK} {n : Nat} {ops : Array Oper} {rs : List RS} (h1 : flFind E.P ops = none) (h2 : static ops (bm ops.toList []) (eager ops (bm ops.toList []) ops.size (List.range ops.size) 0) = true)
    (h3 : stepsD ops (bm ops.toList []) (eager ops (bm ops.toList []) ops.size (List.range ops.size) 0) [] = some rs) (h4 : onlyLooks rs = true) {f : Fr} {S : St} {x : O} (hx : runRS E ck n ops rs f S = x) (hne : x ≠ .fail) : drawnNew E ck n ops f S = x := by
  unfold drawnNew
  rw [h1]
  simp only
  unfold drawnRun
  simp only
  rw [if_pos h2]
  rcases drun_steps (E := E) (ck := ck) (n := n) (fb := ⟨eraseT ops.toList f.tmps, f.dfr⟩) _ rs f S [] h3 (fun _ h => absurd h List.not_mem_nil) with h | h
  · rw [hx] at h; exact absurd h hne
  · rw [h, runRS_looks rs _ _ h4]; exact hx
abbrev Gd := ByteArray × Bool
def gA (l : List Gd) : List AV := l.map fun g => G g.1 g.2
def isRow (a : AV) (es : List AV) : Prop := a = .nils ∧ es = [] ∨ ∃ tok off, a = .sl tok off 2 es
theorem a49 : isAggT Tryz.prog 49 = some true := by kernel_rfl
theorem idx_row {a : AV} {l : List Gd} {i : Nat} (h : isRow a (gA l)) (hi : i < l.length) : oIndexAddr Tryz.prog 46 a (.v (.int .i64 (i : Int))) = some (.ep (G l[i].1 l[i].2).cells) := by
  rcases h with ⟨rfl, h⟩ | ⟨tok, off, rfl⟩
  · have : l = [] := by simpa [gA] using h
    subst this; simp at hi
  · have h0 : (0 : Int) ≤ (i : Int) := by omega
    simp [oIndexAddr, h0, e46, s49, gA, hi]
theorem load49 (S : St) (s : ByteArray) (b : Bool) : oLoad Tryz.prog S 49 (.ep (G s b).cells) = some (G s b) := by
  simp [oLoad, behind, a49, s49, G, AV.cells]
theorem loop_run {E : Env} {D : Drawn} {ck : CallK} {m n : Nat} {c : Code} {f : Fr} {S : St} : runC E D ck (m + 1) n (.loop c) f S = match runC E D ck m n c f S with
    | .out .normal f' S' => runC E D ck m n (.loop c) f' S'
    | r => r := rfl
theorem block_run {E : Env} {D : Drawn} {ck : CallK} {m n id : Nat} {c : Code} {f : Fr} {S : St} : runC E D ck (m + 1) n (.block id c) f S = match runC E D ck m n c f S with
    | .out (.exit id') f' S' => if id' = id then .out .normal f' S' else .out (.exit id') f' S'
    | r => r := rfl
theorem cond_run {E : Env} {D : Drawn} {ck : CallK} {m n : Nat} {x : Operand} {a b : Code} {f : Fr} {S : St} : runC E D ck (m + 1) n (.cond x a b) f S = match evalO E.G f.tmps x with
    | some (.v (.bool true)) => runC E D ck m n a f S
    | some (.v (.bool false)) => runC E D ck m n b f S
    | _ => .fail := rfl
theorem skip_run {E : Env} {D : Drawn} {ck : CallK} {m n : Nat} {f : Fr} {S : St} : runC E D ck (m + 1) n .skip f S = .out .normal f S := rfl
theorem exit_run {E : Env} {D : Drawn} {ck : CallK} {m n id : Nat} {f : Fr} {S : St} : runC E D ck (m + 1) n (.exit id) f S = .out (.exit id) f S := rfl
theorem drawn_run {E : Env} {D : Drawn} {ck : CallK} {m n id : Nat} {ops : Array Oper} {f : Fr} {S : St} : runC E D ck (m + 1) n (.region id ops true) f S = D ck n ops f S := rfl
theorem runRS_nil {E : Env} {ck : CallK} {n : Nat} {ops : Array Oper} {f : Fr} {S : St} : runRS E ck n ops [] f S = .out .normal f S := rfl
theorem runRS_op {E : Env} {ck : CallK} {n : Nat} {ops : Array Oper} {o : Oper} {r : List RS} {f : Fr} {S : St} : runRS E ck n ops (.op o :: r) f S = match stepO E ck n ops o f S with
    | .out .normal f' S' => runRS E ck n ops r f' S'
    | x => x := rfl
theorem wrap_small {i : Nat} (h : i ≤ 1000000) : IntKind.i64.wrap ((i : Int) + 1) = ((i + 1 : Nat) : Int) := by
  rw [← wrap64R_eq]
  have : in64 ((i : Int) + 1) = true := by
    show Nat.ble (i + 1) 9223372036854775807 = true
    exact Nat.ble_eq_true_of_le (by omega)
  unfold wrap64R
  rw [this]; push_cast; rfl
noncomputable def eqBody : Code := match Tryz.f40.body with
  | some (.seq _ (.seq _ (.seq (.seq _ (.block _ (.loop c))) _))) => c
  | _ => .skip
noncomputable def eqOps : Array Oper := match eqBody with
  | .seq _ (.seq _ (.seq (.block _ (.seq _ (.seq (.region _ ops _) _))) _)) => ops
  | _ => #[]
theorem eqOps_draw (ck : CallK) (f : Fr) (S : St) (hne : runRS E1 ck 26 eqOps (eqOps.toList.map RS.op) f S ≠ .fail) : drawnNew E1 ck 26 eqOps f S = runRS E1 ck 26 eqOps (eqOps.toList.map RS.op) f S :=
  drawn_looks (by kernel_rfl) (by kernel_rfl) (rs := eqOps.toList.map RS.op) (by kernel_rfl) (by kernel_rfl) rfl hne
theorem fb_lss (x y : Int) : fastBin .lss (.v (.int .i64 x)) (.v (.int .i64 y)) = some (.v (.bool (decide (x < y)))) := rfl
theorem fb_add (x y : Int) : fastBin .add (.v (.int .i64 x)) (.v (.int .i64 y)) = some (.v (.int .i64 (IntKind.i64.wrap (x + y)))) := rfl
theorem fb_neqI (x y : Int) : fastBin .neq (.v (.int .i64 x)) (.v (.int .i64 y)) = some (.v (.bool (x != y))) := rfl
theorem fb_eqlI (x y : Int) : fastBin .eql (.v (.int .i64 x)) (.v (.int .i64 y)) = some (.v (.bool (x == y))) := rfl
theorem fb_G (op : BinOp) (s s' : ByteArray) (b b' : Bool) : fastBin op (G s b) (G s' b') = none := by cases op <;> rfl
set_option maxHeartbeats 4000000 in
theorem eq_round (ck : CallK) (j : Nat) (a b : AV) (l m : List Gd) (i : Nat) (f : Fr) (S : St) (ha : isRow a (gA l)) (hb : isRow b (gA m)) (hl : l.length ≤ 1000) (hm : m.length = l.length) (hi : i < l.length)
    (f0 : f.tmps.get 0 = some a) (f1 : f.tmps.get 1 = some b) (f12 : f.tmps.get 12 = some (.v (.int .i64 (l.length : Int)))) (f13 : f.tmps.get 13 = some (.v (.int .i64 (i : Int)))) (hne : l[i] = m[i]) :
    ∃ f', runC E1 (drawnNew E1) ck (j + 20) 26 eqBody f S = .out .normal f' S ∧ f'.dfr = f.dfr ∧ f'.tmps.get 0 = some a ∧ f'.tmps.get 1 = some b ∧ f'.tmps.get 12 = some (.v (.int .i64 (l.length : Int))) ∧ f'.tmps.get 13 = some (.v (.int .i64 ((i + 1 : Nat) : Int))) := by
  have h1 := idx_row ha hi
  have h2 := idx_row (i := i) hb (by omega)
  have hlt : ((i : Int) < (l.length : Int)) := by omega
  have hw := wrap_small (i := i) (by omega)
  have hd := eqOps_draw ck
  unfold eqOps at hd
  simp only [eqBody, Tryz.f40] at hd
  simp only [eqBody, Tryz.f40]
  have hl1 := fun S => load49 S l[i].1 l[i].2
  have hl2 := fun S => load49 S m[i].1 m[i].2
  have hn49 := neq49 l[i].1 m[i].1 l[i].2 m[i].2
  have hfb : fastBin .neq (G l[i].1 l[i].2) (G m[i].1 m[i].2) = none := rfl
  have hq : (decide (l[i].1 = m[i].1) && decide (l[i].2 = m[i].2)) = true := by rw [hne]; simp
  rw [hq] at hn49
  simp only [seq_run, region_run, ret_run, block_run, cond_run, skip_run, exit_run, drawn_run, runL_cons, runL_nil, stepO, wantedA, exec1, evalO, T.get_set, T.get_leaf, putA, callA, mapO, ofOpt, ofConst, e1_P, e1_G, Nat.reduceLT, Nat.reduceAdd, Nat.reduceEqDiff, if_true, if_false, reduceIte, f0, f1, f12, f13, neNil3, fb_lss, hlt, decide_true, Bool.false_eq_true]
  rw [hd]
  · simp only [List.map_cons, List.map_nil, runRS_op, runRS_nil, stepO, wantedA, exec1, evalO, T.get_set, T.get_leaf, putA, ofOpt, ofConst, e1_P, e1_G, Nat.reduceLT, Nat.reduceEqDiff, if_true, if_false, reduceIte, f0, f1, f12, f13, h1, h2, hl1, hl2, neNil49, neNil3, fb_G, eqOr, hn49, Bool.not_true, Bool.false_eq_true, fb_add, hw]
    refine ⟨_, rfl, rfl, ?_, ?_, ?_, ?_⟩
    all_goals simp only [T.get_set, Nat.reduceEqDiff, if_true, if_false, f0, f1, f12, f13]
  · simp only [List.map_cons, List.map_nil, runRS_op, runRS_nil, stepO, wantedA, exec1, evalO, T.get_set, T.get_leaf, putA, ofOpt, ofConst, e1_P, e1_G, Nat.reduceLT, Nat.reduceEqDiff, if_true, if_false, reduceIte, f0, f1, f12, f13, h1, h2, hl1, hl2, neNil49, neNil3, fb_G, eqOr, hn49, Bool.not_true, Bool.false_eq_true, fb_add, hw]
    exact fun e => by cases e
set_option maxHeartbeats 4000000 in
theorem eq_stop (ck : CallK) (j : Nat) (a b : AV) (l m : List Gd) (i : Nat) (f : Fr) (S : St) (ha : isRow a (gA l)) (hb : isRow b (gA m)) (hl : l.length ≤ 1000) (hm : m.length = l.length) (hi : i < l.length)
    (f0 : f.tmps.get 0 = some a) (f1 : f.tmps.get 1 = some b) (f12 : f.tmps.get 12 = some (.v (.int .i64 (l.length : Int)))) (f13 : f.tmps.get 13 = some (.v (.int .i64 (i : Int)))) (hne : l[i] ≠ m[i]) :
    ∃ f', runC E1 (drawnNew E1) ck (j + 20) 26 eqBody f S = .out .ret f' S ∧ f'.dfr = f.dfr ∧ f'.tmps.get 4 = some (.v (.bool false)) := by
  have h1 := idx_row ha hi
  have h2 := idx_row (i := i) hb (by omega)
  have hlt : ((i : Int) < (l.length : Int)) := by omega
  have hw := wrap_small (i := i) (by omega)
  have hd := eqOps_draw ck
  unfold eqOps at hd
  simp only [eqBody, Tryz.f40] at hd
  simp only [eqBody, Tryz.f40]
  have hl1 := fun S => load49 S l[i].1 l[i].2
  have hl2 := fun S => load49 S m[i].1 m[i].2
  have hn49 := neq49 l[i].1 m[i].1 l[i].2 m[i].2
  have hfb : fastBin .neq (G l[i].1 l[i].2) (G m[i].1 m[i].2) = none := rfl
  have hq : (decide (l[i].1 = m[i].1) && decide (l[i].2 = m[i].2)) = false := by
    cases h : (decide (l[i].1 = m[i].1) && decide (l[i].2 = m[i].2)) with
    | false => rfl
    | true =>
      rw [Bool.and_eq_true, decide_eq_true_iff, decide_eq_true_iff] at h
      exact absurd (Prod.ext h.1 h.2) hne
  rw [hq] at hn49
  simp only [seq_run, region_run, ret_run, block_run, cond_run, skip_run, exit_run, drawn_run, runL_cons, runL_nil, stepO, wantedA, exec1, evalO, T.get_set, T.get_leaf, putA, callA, mapO, ofOpt, ofConst, e1_P, e1_G, Nat.reduceLT, Nat.reduceAdd, Nat.reduceEqDiff, if_true, if_false, reduceIte, f0, f1, f12, f13, neNil3, fb_lss, hlt, decide_true, Bool.false_eq_true]
  rw [hd]
  · simp only [List.map_cons, List.map_nil, runRS_op, runRS_nil, stepO, wantedA, exec1, evalO, T.get_set, T.get_leaf, putA, ofOpt, ofConst, e1_P, e1_G, Nat.reduceLT, Nat.reduceEqDiff, if_true, if_false, reduceIte, f0, f1, f12, f13, h1, h2, hl1, hl2, neNil49, neNil3, fb_G, eqOr, hn49, Bool.not_false, Bool.false_eq_true, fb_add, hw]
    refine ⟨_, rfl, rfl, ?_⟩
    simp only [T.get_set, Nat.reduceEqDiff, if_true, if_false, f0, f1, f12, f13]
  · simp only [List.map_cons, List.map_nil, runRS_op, runRS_nil, stepO, wantedA, exec1, evalO, T.get_set, T.get_leaf, putA, ofOpt, ofConst, e1_P, e1_G, Nat.reduceLT, Nat.reduceEqDiff, if_true, if_false, reduceIte, f0, f1, f12, f13, h1, h2, hl1, hl2, neNil49, neNil3, fb_G, eqOr, hn49, Bool.not_false, Bool.false_eq_true, fb_add, hw]
    exact fun e => by cases e
set_option maxHeartbeats 4000000 in
theorem eq_end (ck : CallK) (j n : Nat) (f : Fr) (S : St) (f12 : f.tmps.get 12 = some (.v (.int .i64 (n : Int)))) (f13 : f.tmps.get 13 = some (.v (.int .i64 (n : Int)))) :
    ∃ f', runC E1 (drawnNew E1) ck (j + 20) 26 eqBody f S = .out (.exit 0) f' S ∧ f'.dfr = f.dfr := by
  have hlt : ¬ ((n : Int) < (n : Int)) := by omega
  simp only [eqBody, Tryz.f40]
  simp only [seq_run, region_run, ret_run, block_run, cond_run, skip_run, exit_run, drawn_run, runL_cons, runL_nil, stepO, wantedA, exec1, evalO, T.get_set, T.get_leaf, putA, ofOpt, ofConst, e1_P, e1_G, Nat.reduceLT, Nat.reduceAdd, Nat.reduceEqDiff, if_true, if_false, reduceIte, f12, f13, neNil3, fb_lss, hlt, decide_false, Bool.false_eq_true]
  exact ⟨_, rfl, rfl⟩
theorem eq_loop (ck : CallK) (j : Nat) (a b : AV) (l m : List Gd) (S : St) (ha : isRow a (gA l)) (hb : isRow b (gA m)) (hl : l.length ≤ 1000) (hm : m.length = l.length) : ∀ (k i : Nat) (f : Fr), i + k = l.length →
    f.tmps.get 0 = some a → f.tmps.get 1 = some b → f.tmps.get 12 = some (.v (.int .i64 (l.length : Int))) → f.tmps.get 13 = some (.v (.int .i64 (i : Int))) → f.dfr = [] →
    ∃ f', f'.dfr = [] ∧ ((runC E1 (drawnNew E1) ck (j + k + 21) 26 (.loop eqBody) f S = .out (.exit 0) f' S ∧ l.drop i = m.drop i) ∨ (runC E1 (drawnNew E1) ck (j + k + 21) 26 (.loop eqBody) f S = .out .ret f' S ∧ f'.tmps.get 4 = some (.v (.bool false)) ∧ l.drop i ≠ m.drop i))
  | 0, i, f, hik, f0, f1, f12, f13, hd => by
    have hi : i = l.length := by omega
    subst hi
    obtain ⟨f', h1, h2⟩ := eq_end ck j l.length f S f12 f13
    refine ⟨f', h2.trans hd, .inl ⟨?_, ?_⟩⟩
    · show runC E1 (drawnNew E1) ck (j + 20 + 1) 26 (.loop eqBody) f S = _
      rw [loop_run, h1]
    · rw [List.drop_length, ← hm, List.drop_length]
  | k + 1, i, f, hik, f0, f1, f12, f13, hd => by
    have hi : i < l.length := by omega
    have hi2 : i < m.length := by omega
    have hdl : l.drop i = l[i] :: l.drop (i + 1) := List.drop_eq_getElem_cons hi
    have hdm : m.drop i = m[i] :: m.drop (i + 1) := List.drop_eq_getElem_cons hi2
    have e : j + (k + 1) + 21 = (j + k + 21) + 1 := by omega
    by_cases hne : l[i] = m[i]
    · obtain ⟨f2, h1, h2, g0, g1, g12, g13⟩ := eq_round ck (j + k + 1) a b l m i f S ha hb hl hm hi f0 f1 f12 f13 hne
      obtain ⟨f', k1, k2⟩ := eq_loop ck j a b l m S ha hb hl hm k (i + 1) f2 (by omega) g0 g1 g12 g13 (h2.trans hd)
      have h1' : runC E1 (drawnNew E1) ck (j + k + 21) 26 eqBody f S = .out .normal f2 S := h1
      refine ⟨f', k1, ?_⟩
      rw [e, loop_run, h1', hdl, hdm, hne]
      rcases k2 with ⟨q1, q2⟩ | ⟨q1, q2, q3⟩
      · exact .inl ⟨q1, by rw [q2]⟩
      · exact .inr ⟨q1, q2, fun h => q3 (List.cons.inj h).2⟩
    · obtain ⟨f2, h1, h2, h3⟩ := eq_stop ck (j + k + 1) a b l m i f S ha hb hl hm hi f0 f1 f12 f13 hne
      have h1' : runC E1 (drawnNew E1) ck (j + k + 21) 26 eqBody f S = .out .ret f2 S := h1
      refine ⟨f2, h2.trans hd, .inr ⟨?_, h3, ?_⟩⟩
      · rw [e, loop_run, h1']
      · rw [hdl, hdm]; exact fun h => hne (List.cons.inj h).1
/-- Where the loop ends. -/
theorem eq_loop_at (ck : CallK) (j : Nat) (a b : AV) (l m : List Gd) (S : St) (ha : isRow a (gA l)) (hb : isRow b (gA m)) (hl : l.length ≤ 1000) (hm : m.length = l.length) :
    ∃ g : T AV → T AV, ∀ t : T AV, t.get 0 = some a → t.get 1 = some b → t.get 12 = some (.v (.int .i64 (l.length : Int))) → t.get 13 = some (.v (.int .i64 0)) →
      runC E1 (drawnNew E1) ck (j + l.length + 21) 26 (.loop eqBody) ⟨t, []⟩ S = (if l = m then .out (.exit 0) ⟨g t, []⟩ S else .out .ret ⟨g t, []⟩ S) ∧ (¬ l = m → (g t).get 4 = some (.v (.bool false))) := by
  have key := fun t h0 h1 h2 h3 => eq_loop ck j a b l m S ha hb hl hm l.length 0 ⟨t, []⟩ (by omega) h0 h1 h2 h3 rfl
  refine ⟨fun t => open Classical in if h : t.get 0 = some a ∧ t.get 1 = some b ∧ t.get 12 = some (.v (.int .i64 (l.length : Int))) ∧ t.get 13 = some (.v (.int .i64 0)) then (Classical.choose (key t h.1 h.2.1 h.2.2.1 h.2.2.2)).tmps else t, fun t h0 h1 h2 h3 => ?_⟩
  have hh : t.get 0 = some a ∧ t.get 1 = some b ∧ t.get 12 = some (.v (.int .i64 (l.length : Int))) ∧ t.get 13 = some (.v (.int .i64 0)) := ⟨h0, h1, h2, h3⟩
  simp only [hh, and_self, dite_true]
  have hs := Classical.choose_spec (key t h0 h1 h2 h3)
  generalize Classical.choose (key t h0 h1 h2 h3) = F at hs
  obtain ⟨k1, k2⟩ := hs
  obtain ⟨ft, fd⟩ := F
  simp only at k1
  subst k1
  simp only [List.drop_zero] at k2
  rcases k2 with ⟨q1, q2⟩ | ⟨q1, q2, q3⟩
  · rw [if_pos q2]; exact ⟨q1, fun h => absurd q2 h⟩
  · rw [if_neg q3]; exact ⟨q1, fun _ => q2⟩
set_option maxHeartbeats 4000000 in
/-- slices.Equal of guards. -/
theorem equal_run (ck : CallK) (j : Nat) (a b : AV) (l m : List Gd) (S : St) (ha : isRow a (gA l)) (hb : isRow b (gA m)) (hl : l.length ≤ 1000) :
    ∃ f', runC E1 (drawnNew E1) ck (j + l.length + 30) 26 ((Tryz.f40.body).getD .skip) ⟨initT [a, b] 0, []⟩ S = .out .ret ⟨f', []⟩ S ∧ f'.get 4 = some (.v (.bool (decide (l = m)))) := by
  have hL1 := fun S => oLen_row S a (gA l) ha
  have hL2 := fun S => oLen_row S b (gA m) hb
  have hg : ∀ x : List Gd, (gA x).length = x.length := fun x => by simp [gA]
  simp only [hg] at hL1 hL2
  by_cases hlm : m.length = l.length
  · have hne : ((l.length : Int) != (m.length : Int)) = false := by rw [hlm]; simp
    obtain ⟨g, key⟩ := eq_loop_at ck (j + 4) a b l m S ha hb hl hlm
    have efuel : j + 4 + l.length + 21 = j + l.length + 25 := by omega
    rw [efuel] at key
    unfold eqBody at key
    simp only [Tryz.f40] at key
    simp only [Tryz.f40, Option.getD_some]
    simp only [seq_run, region_run, ret_run, block_run, cond_run, skip_run, exit_run, runL_cons, runL_nil, stepO, wantedA, exec1, evalO, initT, T.get_set, T.get_leaf, putA, callA, ofOpt, ofConst, e1_P, e1_G, Nat.reduceLT, Nat.reduceAdd, Nat.reduceEqDiff, if_true, if_false, reduceIte, hL1, hL2, neNil3, fb_neqI, hne, Bool.false_eq_true]
    rw [(key _ ?_ ?_ ?_ ?_).1]
    · by_cases hq : l = m
      · simp only [hq, if_true, seq_run, region_run, ret_run, runL_cons, runL_nil, stepO, wantedA, exec1, evalO, ofOpt, ofConst, putA, Nat.reduceLT, decide_true]
        exact ⟨_, rfl, by simp only [T.get_set, if_true]⟩
      · simp only [hq, if_false, decide_false]
        refine ⟨_, rfl, (key _ ?_ ?_ ?_ ?_).2 hq⟩
        all_goals simp only [T.get_set, T.get_leaf, Nat.reduceEqDiff, if_true, if_false]
    all_goals simp only [T.get_set, T.get_leaf, Nat.reduceEqDiff, if_true, if_false]
  · have hne : ((l.length : Int) != (m.length : Int)) = true := by
      rw [bne_iff_ne]; intro e; exact hlm (by omega)
    have hq : ¬ l = m := fun e => hlm (by rw [e])
    simp only [Tryz.f40, Option.getD_some]
    simp only [seq_run, region_run, ret_run, block_run, cond_run, skip_run, exit_run, runL_cons, runL_nil, stepO, wantedA, exec1, evalO, initT, T.get_set, T.get_leaf, putA, callA, ofOpt, ofConst, e1_P, e1_G, Nat.reduceLT, Nat.reduceAdd, Nat.reduceEqDiff, if_true, if_false, reduceIte, hL1, hL2, neNil3, fb_neqI, hne, Bool.false_eq_true]
    exact ⟨_, rfl, by simp only [T.get_set, if_true, hq, decide_false]⟩
end Go.Ax
