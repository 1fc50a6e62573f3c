/-
  Ranges over functions: the loop's record beside the abstract state; one round.
-/
import Derived.Test.YtbchlfdjedbfhaaDoorWG12
import Derived.Test.YtbchlfdjedbfhaaDoorWG9
set_option linter.unusedVariables false
set_option linter.unusedSimpArgs false
noncomputable section
namespace Go.Ax
open Go.RowKit
set_option linter.unusedVariables false
set_option linter.unusedSimpArgs false
/-- A loop, from its head on. -/
def LWpIn (F : Fence) (n : Nat) (P : Program) (c : Code) (Q : Exit → Act → World → Prop) (a : Act) (w : World) : Prop :=
  ∀ (b : Frame) (k : List Item) (cs : List Frame), b.roundOf = F.round → F.fn b.fn → F.room (cs.length + 1 + n) → ∃ e a' w', Q e a' w' ∧ ArrivesIn (Machine.fenced P F) P (lone (b.atR a (.code c :: .inLoop c :: k)) cs w) b k cs e a' w'
section
variable {F : Fence} {n : Nat} {P : Program} {c : Code} {Q : Exit → Act → World → Prop} {a : Act} {w : World}
theorem LWpIn.loop (h : LWpIn F n P c Q a w) : (Code.loop c).wpIn F n P Q a w := fun b k cs hro hb hr => by
  obtain ⟨e, a', w', hq, harr⟩ := h b k cs hro hb hr
  exact ⟨e, a', w', hq, .of_steps (.one (fenced_calm hb hr rfl) stepR_loop) harr⟩
theorem LWpIn.round (h : c.wpIn F n P (Exit.then (LWpIn F n P c Q) Q) a w) : LWpIn F n P c Q a w := fun b k cs hro hb hr => by
  obtain ⟨e, a₁, w₁, hq, harr⟩ := h b (.inLoop c :: k) cs hro hb hr
  cases e with
  | normal =>
    obtain ⟨e₂, a₂, w₂, hq₂, harr₂⟩ := hq b k cs hro hb hr
    exact ⟨e₂, a₂, w₂, hq₂, .of_steps (StepsIn.trans harr (.one (fenced_calm hb hr rfl) stepR_inLoop)) harr₂⟩
  | exit id => exact ⟨_, a₁, w₁, hq, .pass (x := .inLoop c) rfl (fun _ _ => .inl (by simp)) harr⟩
  | goto l => exact ⟨_, a₁, w₁, hq, .pass (x := .inLoop c) rfl (fun _ _ => .inl (by simp)) harr⟩
  | ret => exact ⟨_, a₁, w₁, hq, .pass (x := .inLoop c) rfl (fun _ _ => .inl (by simp)) harr⟩
  | panic ch => exact ⟨_, a₁, w₁, hq, .pass (x := .inLoop c) rfl (fun _ _ => .inl (by simp)) harr⟩
  | outgrown => exact ⟨_, a₁, w₁, hq, .pass (x := .inLoop c) rfl (fun _ _ => .inl (by simp)) harr⟩
end
/-- A block without cells, of which no name speaks. -/
structure Odd (base : Nat) (γ : Gh) (S : St) (w : World) (l : Nat) (o : Obj) : Prop where
  at_ : w.heap[l]? = some o
  ge : base ≤ l
  free : ∀ id c s, S.mem.get id = some c → γ.loc id ≠ some (l, s)
theorem Odd.ext {base : Nat} {γ γ' : Gh} {S S' : St} {w w' : World} {l : Nat} {o : Obj} (h : Odd base γ S w l o) (e : Ext γ S w γ' S' w') : Odd base γ' S' w' l o := by
  have hlt := (Array.getElem?_eq_some_iff.1 h.at_).1
  refine ⟨(e.frame l hlt h.free).1.trans h.at_, h.ge, fun id c s hm hl => ?_⟩
  rcases e.liv id c l s hm hl with h1 | ⟨i, c0, s0, m0, l0⟩
  · omega
  · exact h.free i c0 s0 m0 l0
def noCell : Obj → Bool
  | .cells _ _ _ => false
  | _ => true
theorem cell_noCell {w : World} {l : Nat} {o : Obj} (h : w.heap[l]? = some o) (ho : noCell o = true) (k : Nat) : w.cell? ⟨l, k, none⟩ = none := by
  unfold World.cell?
  simp only [h]
  cases o <;> first | rfl | cases ho
theorem put_cell {w : World} {l : Nat} {o o' : Obj} (h : w.heap[l]? = some o) (ho : noCell o = true) (ho' : noCell o' = true) (b k : Nat) : (w.putObj l o').cell? ⟨b, k, none⟩ = w.cell? ⟨b, k, none⟩ := by
  by_cases e : b = l
  · subst e
    rw [cell_noCell h ho, cell_noCell (World.putObj_heap_same (Array.getElem?_eq_some_iff.1 h).1) ho']
  · exact World.cell?_of_block (a := ⟨b, k, none⟩) (World.putObj_heap_other e)
theorem SR.put {base : Nat} {w0 w : World} {γ : Gh} {S : St} (h : SR base w0 γ S w) {l : Nat} {o : Obj} (hl : Odd base γ S w l o) (ho : noCell o = true) (o' : Obj) (ho' : noCell o' = true) : SR base w0 γ S (w.putObj l o') ∧ Ev γ w γ (w.putObj l o') := by
  have hlt := (Array.getElem?_eq_some_iff.1 hl.at_).1
  have ev : Ev γ w γ (w.putObj l o') := ⟨fun _ _ h => h, fun _ _ h => h, fun b k v _ hv => (put_cell hl.at_ ho ho' b k).trans hv, fun b arr T fr ha => ⟨arr, fr, by
    by_cases e : b = l
    · subst e; rw [hl.at_] at ha; injection ha with ha; subst ha; cases ho
    · rw [World.putObj_heap_other e]; exact ha, rfl⟩⟩
  refine ⟨⟨⟨h.below.os, h.below.tape, h.below.output, by rw [World.putObj_size]; exact h.below.size, fun k hk => ?_⟩, by rw [World.putObj_size]; exact h.hbase, fun b k hi => ?_, h.fresh, h.pos, fun id b s e => by rw [World.putObj_size]; exact h.inb id b s e, fun id c e => ?_, h.inj⟩, ev⟩
  · have := hl.ge
    rw [World.putObj_heap_other (by omega)]; exact h.below.block k hk
  · obtain ⟨v, hv⟩ := h.imc b k hi; exact ⟨v, (put_cell hl.at_ ho ho' b k).trans hv⟩
  · obtain ⟨b, s, h1, h2, h3⟩ := h.live id c e
    have hne : b ≠ l := fun e2 => by subst e2; exact hl.free id c s e h1
    exact ⟨b, s, h1, h2, h3.keep ev (World.putObj_heap_other hne) (fun _ h => h)⟩
theorem Odd.put {base : Nat} {γ : Gh} {S : St} {w : World} {l : Nat} {o : Obj} (h : Odd base γ S w l o) (o' : Obj) : Odd base γ S (w.putObj l o') l o' :=
  ⟨World.putObj_heap_same (Array.getElem?_eq_some_iff.1 h.at_).1, h.ge, h.free⟩
theorem Odd.put_other {base : Nat} {γ : Gh} {S : St} {w : World} {l D : Nat} {o o' : Obj} (h : Odd base γ S w D o) (hne : D ≠ l) : Odd base γ S (w.putObj l o') D o :=
  ⟨(World.putObj_heap_other hne).trans h.at_, h.ge, h.free⟩
/-- What stays the same below. -/
def ImB (base : Nat) (γ : Gh) (im : Nat → Nat → Prop) : Prop := ∀ b, b < base → ∀ o, γ.im b o → im b o
theorem ImB.ext {base : Nat} {w0 : World} {γ γ' : Gh} {S S' : St} {w w' : World} {im : Nat → Nat → Prop} (h : ImB base γ im) (hS : SR base w0 γ S w) (e : Ext γ S w γ' S' w') : ImB base γ' im := fun b hb o ho =>
  h b hb o ((e.frame b (Nat.lt_of_lt_of_le hb hS.hbase) fun id c s hm hl => by
    obtain ⟨b2, s2, h1, h2, _⟩ := hS.live id c hm
    rw [hl] at h1; injection h1 with h1; injection h1 with h1 _; omega).2 o ho)
/-- A loop's record. -/
structure RcP where
  fn : FuncId
  tmps : Array Value
  p : Tmp
  assign : Code
  body : Code
  D : Nat
def RcP.at (r : RcP) (st : LoopState) (pe : Option Code) : Loop := { state := st, pending := pe, fn := r.fn, tmps := r.tmps, params := #[r.p], assign := r.assign, body := r.body, defers := r.D }
structure RI (G : Gl) (base : Nat) (w0 : World) (im : Nat → Nat → Prop) (l : Nat) (rc : RcP) (st : LoopState) (pe : Option Code) (γ : Gh) (S : St) (w : World) : Prop where
  sr : SR base w0 γ S w
  imb : ImB base γ im
  ol : Odd base γ S w l (.loop (rc.at st pe))
  od : Odd base γ S w rc.D (.deferred (some []))
  gr : GR γ w G
  ne : rc.D ≠ l
section
variable {G : Gl} {base : Nat} {w0 : World} {im : Nat → Nat → Prop} {l : Nat} {rc : RcP} {st : LoopState} {pe : Option Code} {γ γ' : Gh} {S S' : St} {w w' : World}
theorem RI.ext (h : RI G base w0 im l rc st pe γ S w) (hS : SR base w0 γ' S' w') (e : Ext γ S w γ' S' w') : RI G base w0 im l rc st pe γ' S' w' :=
  ⟨hS, h.imb.ext h.sr e, h.ol.ext e, h.od.ext e, h.gr.mono e.ev, h.ne⟩
theorem RI.put (h : RI G base w0 im l rc st pe γ S w) (st' : LoopState) (pe' : Option Code) : RI G base w0 im l rc st' pe' γ S (w.putObj l (.loop (rc.at st' pe'))) ∧ Ev γ w γ (w.putObj l (.loop (rc.at st' pe'))) := by
  obtain ⟨h1, h2⟩ := h.sr.put h.ol rfl (.loop (rc.at st' pe')) rfl
  exact ⟨⟨h1, h.imb, h.ol.put _, h.od.put_other h.ne, h.gr.mono h2, h.ne⟩, h2⟩
end
theorem FF_round (l : Nat) : (FF none).inRound l = FF (some l) := rfl
/-- One round: the body's run says how it ends. -/
theorem round_in {E : Env} (hE : E.Ok) (hI : IntrOk E) (hmix : E.P.follows .mixedOrders = true) {k n : Nat} {base : Nat} {w0 : World} {im : Nat → Nat → Prop} {l : Nat} {rc : RcP} {γ : Gh} {S : St} {w : World} (h : RI E.G base w0 im l rc .ready none γ S w)
    (hp1 : plainC rc.assign = true) (hp2 : plainC rc.body = true) {t : T AV} {tmps : Array Value} (hf : FR γ w t tmps) (hn : tmps.size = n) {R : O → Prop}
    (hW : W E n rc.assign ⟨t, []⟩ S (fun r => ∃ t1 S1, r = .out .normal ⟨t1, []⟩ S1 ∧ W E n rc.body ⟨t1, []⟩ S1 R))
    {Post : Ending → World → Prop}
    (h1 : ∀ f' S', R (.out .normal f' S') → ∀ γ' w', RI E.G base w0 im l rc .ready none γ' S' w' → Ev γ w γ' w' → S.next ≤ S'.next → (∀ id, id < S.next → γ'.loc id = γ.loc id) → Post (.returned (.bool true)) w')
    (h2 : ∀ f' S', R (.out .ret f' S') → ∀ γ' w', RI E.G base w0 im l rc .done (some .ret) γ' S' w' → Ev γ w γ' w' → Post (.returned (.bool false)) w')
    (h3 : ∀ r, R r → (∃ f' S', r = .out .normal f' S') ∨ ∃ f' S', r = .out .ret f' S') : RoundIn (FF none) k E.P l rc.fn tmps rc.assign rc.body w Post := by
  refine roundIn_of_wpIn trivial ?_
  rw [FF_round]
  refine W_in hE hI hmix [] rc.assign hp1 hW h.sr hf hn h.gr ?_
  rintro _ ⟨t1, S1, rfl, hB⟩ _ γ1 tm1 w1 s1 e1 f1 n1
  have r1 := h.ext s1 e1
  obtain ⟨r2, ev2⟩ := r1.put .busy none
  refine ⟨_, run_beginRound r1.ol.at_ rfl, W_in hE hI hmix [] rc.body hp2 hB r2.sr (f1.mono ev2) n1 r2.gr ?_⟩
  intro r hr
  rcases h3 r hr with ⟨f', S', rfl⟩ | ⟨f', S', rfl⟩
  · intro _ γ' tm' w' s3 e3 f3 n3
    have r3 := r2.ext s3 e3
    obtain ⟨r4, ev4⟩ := r3.put .ready none
    have ev : Ev γ w γ' (w'.putObj l (.loop (rc.at .ready none))) := ((e1.ev.trans ev2).trans e3.ev).trans ev4
    have hl : ∀ id, id < S.next → γ'.loc id = γ.loc id := fun id hid => (e3.same id (Nat.lt_of_lt_of_le hid e1.next)).trans (e1.same id hid)
    exact ⟨_, _, run_endRound none r3.ol.at_, h1 f' S' hr γ' _ r4 ev (Nat.le_trans e1.next e3.next) hl⟩
  · intro _ γ' tm' w' s3 e3 f3 n3
    have r3 := r2.ext s3 e3
    obtain ⟨r4, ev4⟩ := r3.put .done (some .ret)
    have ev : Ev γ w γ' (w'.putObj l (.loop (rc.at .done (some .ret)))) := ((e1.ev.trans ev2).trans e3.ev).trans ev4
    exact ⟨_, _, run_endRound (some .ret) r3.ol.at_, h2 f' S' hr γ' _ r4 ev⟩
end Go.Ax
noncomputable section
namespace Go.Ax
open Go.RowKit Go.Proofs
set_option linter.unusedVariables false
set_option linter.unusedSimpArgs false
set_option maxRecDepth 100000
theorem boxed_get (S : St) (a : List AV) : (S.newBox a).mem.get S.next = some (.box a) := by
  show (S.mem.set S.next _).get S.next = _
  rw [T.get_set, if_pos rfl]
theorem boxed_other (S : St) (a : List AV) {id : Nat} (h : id ≠ S.next) : (S.newBox a).mem.get id = S.mem.get id := by
  show (S.mem.set S.next _).get id = _
  rw [T.get_set, if_neg h]
theorem fnz_20 : ∃ fn, EZ.F 20 = some fn := Option.isSome_iff_exists.1 (by kernel_rfl)
theorem fnz_32 : ∃ fn, EZ.F 32 = some fn := Option.isSome_iff_exists.1 (by kernel_rfl)
theorem fnz_45 : ∃ fn, EZ.F 45 = some fn := Option.isSome_iff_exists.1 (by kernel_rfl)
theorem sp_32 : EZ.I 32 = none := by
  show (Bool.rec (Bool.rec (Bool.rec none (some pintB) (Nat.beq 32 56)) (some joinB) (Nat.beq 32 17)) (some (pureG gZ Tryd.prog SpecZ 32)) (knz 32) : Option (List AV → St → R)) = _
  rw [show knz 32 = false from by decide]
  rfl
theorem sp_20 : EZ.I 20 = none := by
  show (Bool.rec (Bool.rec (Bool.rec none (some pintB) (Nat.beq 20 56)) (some joinB) (Nat.beq 20 17)) (some (pureG gZ Tryd.prog SpecZ 20)) (knz 20) : Option (List AV → St → R)) = _
  rw [show knz 20 = false from by decide]
  rfl
/-- What SplitSeq makes: a function over three variables. -/
def seqS (S : St) (l : List UInt8) (c : UInt8) : St := ((S.newBox [strS l]).newBox [strS [c]]).newBox [i64A 0]
def seqV (n : Nat) : AV := .fn (.func 43) [] [.ptr (n + 1) 0, .ptr n 0, .ptr (n + 2) 0]
theorem split1_w {l : List UInt8} {c : UInt8} {S : St} {Q : R → Prop} (h : Q (.ret (seqV S.next) (seqS S l c))) : WC EZ 32 [strS l, strS [c], i64A 0] S Q := by
  refine WC_fn Tryd.f32 sp_32 (by kernel_rfl) (by kernel_rfl) (show (_ : Nat) ≤ _ from by show (_ : Nat) ≤ _; simp [Tryd.f32]) ?_
  unfold strS
  simp (maxSteps := 2000000) (disch := omega) only [W_region, W_seq, W_ret, seqQ_normal2, WL_nil2, WL_cons, execL_val2, putL_some2, wantedA, exec1, evalO, initT, T.get_set, T.get_leaf, mapO, ofOpt, ofConst, finW_ret, giveW, resultsA, tupA, Nat.reduceLT, Nat.reduceAdd, Nat.reduceEqDiff, if_true, if_false, true_and, Option.getD_some, nb_next, Nat.zero_add, noTup_v, cells_v, Tryd.f32, i64A]
  exact h
theorem split_w {l : List UInt8} {c : UInt8} {S : St} {Q : R → Prop} (h : Q (.ret (seqV S.next) (seqS S l c))) : WC EZ 20 [strS l, strS [c]] S Q := by
  refine WC_fn Tryd.f20 sp_20 (by kernel_rfl) (by kernel_rfl) (show (_ : Nat) ≤ _ from by show (_ : Nat) ≤ _; simp [Tryd.f20]) ?_
  obtain ⟨fn1, hf1⟩ := fnz_32
  unfold strS
  simp (maxSteps := 2000000) (disch := omega) only [W_region, W_seq, seqQ_normal2, WL_nil2, WL_cons, execL_val2, execL_enter2, putL_some2, wantedA, exec1, evalO, initT, T.get_set, T.get_leaf, callA, mapO, ofOpt, ofConst, Nat.reduceLT, Nat.reduceEqDiff, if_true, if_false, true_and, Option.getD_some, List.nil_append, List.append_nil, Nat.zero_add, Tryd.f20, hf1]
  refine split1_w ?_
  simp (maxSteps := 2000000) (disch := omega) only [W_ret, seqQ_normal2, WL_nil2, WL_cons, execL_val2, putL_some2, retL_ret2, wantedA, exec1, evalO, T.get_set, T.get_leaf, ofOpt, finW_ret, giveW, resultsA, tupA, Nat.reduceLT, Nat.reduceEqDiff, if_true, if_false, true_and]
  exact h
/-- Where a byte stands first, and the parts of a text. -/
theorem idx_split (c : UInt8) : ∀ l : List UInt8, (idxB c l = -1 ∧ splitB c l = [l]) ∨ ∃ i : Nat, idxB c l = (i : Int) ∧ i < l.length ∧ splitB c l = l.take i :: splitB c (l.drop (i + 1))
  | [] => .inl ⟨rfl, rfl⟩
  | b :: r => by
    have ih := idx_split c r
    unfold idxB at *
    unfold Lib.indexByte
    by_cases h : b = c
    · subst h
      refine .inr ⟨0, by simp, by simp, ?_⟩
      rw [splitB, if_pos rfl]; rfl
    · have hb : (b == c) = false := by simpa using h
      rw [hb]
      simp only [Bool.false_eq_true, if_false]
      rw [splitB, if_neg h]
      rcases ih with ⟨h1, h2⟩ | ⟨i, h1, h2, h3⟩
      · refine .inl ⟨?_, ?_⟩
        · rw [h1]; rfl
        · rw [h2]
      · refine .inr ⟨i + 1, ?_, by simp; omega, ?_⟩
        · rw [h1]
          have : (((i : Nat) : Int) == -1) = false := by rw [beq_eq_false_iff_ne]; omega
          rw [this]
          simp
        · rw [h3]; rfl
def it0 : Code := match Tryd.f43.body with
  | some (.seq (.seq a _) _) => a
  | _ => .skip
def itX : Code := match Tryd.f43.body with
  | some (.seq (.seq _ (.cond _ a _)) _) => a
  | _ => .skip
def itB : Code := match Tryd.f43.body with
  | some (.seq _ (.seq (.block _ (.loop (.block _ a))) _)) => a
  | _ => .skip
def it5 : Code := match itB with
  | .seq a _ => a
  | _ => .skip
def it6 : Code := match itB with
  | .seq _ (.seq a _) => a
  | _ => .skip
def it7 : Code := match itB with
  | .seq _ (.seq _ (.seq a _)) => a
  | _ => .skip
def it8 : Array Oper := match itB with
  | .seq _ (.seq _ (.seq _ (.seq (.seq (.region _ o _) _) _))) => o
  | _ => #[]
def it8i : Nat := match itB with
  | .seq _ (.seq _ (.seq _ (.seq (.seq (.region i _ _) _) _))) => i
  | _ => 0
def it9 : Code := match itB with
  | .seq _ (.seq _ (.seq _ (.seq _ a))) => a
  | _ => .skip
def it10 : Array Oper := match Tryd.f43.body with
  | some (.seq _ (.seq _ (.region _ o _))) => o
  | _ => #[]
def it10i : Nat := match Tryd.f43.body with
  | some (.seq _ (.seq _ (.region i _ _))) => i
  | _ => 0
theorem itB_is : itB = .seq it5 (.seq it6 (.seq it7 (.seq (.seq (.region it8i it8 false) (.cond (.tmp 42) .ret .skip)) it9))) := by kernel_rfl
theorem f43_is : Tryd.f43.body = some (.seq (.seq it0 (.cond (.tmp 11) itX .skip)) (.seq (.block 2 (.loop (.block 3 itB))) (.region it10i it10 false))) := by kernel_rfl
theorem it8_is : it8.toList.take 2 ++ it8.toList.drop 2 = it8.toList := List.take_append_drop _ _
theorem it10_is : it10.toList.take 2 ++ it10.toList.drop 2 = it10.toList := List.take_append_drop _ _
theorem itp : (plainC it0 && plainC it5 && plainC it6 && plainC it7 && plainC it9) = true := by kernel_rfl
theorem itp8 : noDfr it8.toList = true ∧ noDfr it10.toList = true := ⟨by kernel_rfl, by kernel_rfl⟩
end Go.Ax
noncomputable section
namespace Go.Ax
open Go.RowKit Go.Proofs
set_option linter.unusedVariables false
set_option linter.unusedSimpArgs false
set_option maxRecDepth 100000
section
variable {F : Fence} {n : Nat} {P : Program} {ops : Array Oper} {Q : Exit → Act → World → Prop} {a : Act} {w : World} {o : Oper}
theorem upon_then {next : Act → World → Prop} {K : Act → World → Prop} (h : o.wpIn F n P a w K (Exit.then next Q)) : o.wpIn F n P a w K Q := by
  refine ⟨h.1, ?_⟩
  have h := h.2
  generalize (o.semAt F.round a.eval).run P w = r at *
  cases r with
  | ok x w' =>
    cases x <;> first
      | exact h
      | exact ⟨h.1, CallsIn.mono h.2 (fun e w'' he => by cases e <;> exact he)⟩
      | exact ⟨h.1, RoundIn.mono h.2 (fun e w'' he => by cases e <;> exact he)⟩
  | halt x w' => cases x <;> exact h
theorem wpListIn_append (l2 : List Oper) : ∀ (l1 : List Oper) (a : Act) (w : World), wpListIn F n P ops (Exit.then (wpListIn F n P ops Q l2) Q) l1 a w → wpListIn F n P ops Q (l1 ++ l2) a w
  | [], a, w, h => h
  | o :: l1, a, w, h => by
    rw [List.cons_append]
    unfold wpListIn at h ⊢
    split at h
    · rename_i hw
      rw [if_pos hw]
      exact upon_then (Oper.wpIn_mono (fun a w h => wpListIn_append l2 l1 a w h) h)
    · rename_i hw
      rw [if_neg hw]
      exact ⟨h.1, wpListIn_append l2 l1 _ _ h.2⟩
end
theorem WL_in {E : Env} (hE : E.Ok) (hI : IntrOk E) (hmix : E.P.follows .mixedOrders = true) {r : Option Nat} {k n : Nat} {base : Nat} {w0 : World} (ds : List Deferred) {ops : Array Oper} {l1 l2 : List Oper} (hn1 : noDfr l1 = true) {t : T AV} {S : St} {K : T AV → St → Prop}
    (h : WL E n ops l1 ⟨t, []⟩ S (fun r => ∃ t1 S1, r = .out .normal ⟨t1, []⟩ S1 ∧ K t1 S1)) {Q : Exit → Act → World → Prop} {γ : Gh} {w : World} {tmps : Array Value} (hS : SR base w0 γ S w) (hf : FR γ w t tmps) (hn : tmps.size = n) (hg : GR γ w E.G)
    (hK : ∀ t1 S1, K t1 S1 → ∀ γ' tmps' w', SR base w0 γ' S1 w' → Ext γ S w γ' S1 w' → FR γ' w' t1 tmps' → tmps'.size = n → wpListIn (FF r) k E.P ops Q l2 ⟨tmps', ds⟩ w') : wpListIn (FF r) k E.P ops Q (l1 ++ l2) ⟨tmps, ds⟩ w := by
  obtain ⟨x, ⟨m0, hm⟩, t1, S1, rfl, hk⟩ := WL_sound h
  have hC : CallOk E base w0 (ckN E m0) := call_sound hE hI (drawnNew_ok hE hmix) m0 base w0
  refine wpListIn_append l2 l1 _ _ (list_in _ (.inr (noDfr_all hn1)) ⟨tmps, []⟩ _ (runL_sound hE hC _ γ S w ⟨t, []⟩ ⟨tmps, []⟩ hS ⟨hf, hn, trivial⟩ hg ?_))
  refine HD.holds (fun e f' S' he => runL_dfr _ hn1 he) ?_
  rw [hm m0 (Nat.le_refl _)]
  intro _ γ' tmps' w' h1 h2 h3 h4
  exact hK t1 S1 hk γ' tmps' w' h1 h2 h3 h4
/-- The call of yield. -/
theorem yield_step {P : Program} {k : Nat} {ops : Array Oper} {Q : Exit → Act → World → Prop} {o : Oper} {l2 : List Oper} {act : Act} {w : World} {x y d : Tmp} {at_ : Array TypeId} {l : Nat} {fn : FuncId} {tm : Array Value} {assign body : Code} {v : Value}
    (hg : o.guard = none) (ho : o.op = .call { callee := .value (.tmp x), args := #[.tmp y], argTypes := at_ }) (hd : o.dst = some d) (hx : act.tmps.getD x undef = .func (.yield l) #[] #[]) (hv : act.tmps.getD y undef = v) (hy : (Instr.yield l #[v]).run P w = .ok (.round l fn tm assign body) w)
    (hR : RoundIn (FF none) (k - 1) P l fn tm assign body w (fun e w' => ∃ b : Bool, e = .returned (.bool b) ∧ wpListIn (FF none) k P ops Q l2 ⟨act.tmps.setIfInBounds d (.bool b), act.defers⟩ w')) : wpListIn (FF none) k P ops Q (o :: l2) act w := by
  refine wpListIn_plain hg fun K hK => ⟨fun _ _ => trivial, ?_⟩
  have hr : (Oper.semAt (FF none).round act.eval o).run P w = .ok (.round l fn tm assign body) w := by
    show (execOp act.eval o).run P w = _
    have e1 : act.eval (.tmp x) = .func (.yield l) #[] #[] := hx
    have e2 : act.eval (.tmp y) = v := hv
    simp [execOp, ho, resolve, Deferred.ofValue, e1, e2, invoke, hy]
  rw [hr]
  refine ⟨fun h => (by cases h), RoundIn.mono hR fun e w' he => ?_⟩
  obtain ⟨b, rfl, he⟩ := he
  refine hK _ _ ?_
  rw [hd]
  exact he
end Go.Ax
noncomputable section
namespace Go.Ax
open Go.RowKit Go.Proofs
set_option linter.unusedVariables false
set_option linter.unusedSimpArgs false
set_option maxRecDepth 100000
theorem yz9 : sizeT Tryd.prog 9 = some 1 := by kernel_rfl
theorem ys9 (S : St) (p k : Nat) (v : AV) : oStore Tryd.prog S 9 (.ptr p k) v = vstB S (S.mem.get p) p k v 1 := vstG yz9 S p k v
def it8y : Oper := match it8.toList.drop 2 with
  | [o, _] => o
  | _ => default
def it8z : Oper := match it8.toList.drop 2 with
  | [_, o] => o
  | _ => default
def it10y : Oper := match it10.toList.drop 2 with
  | [o] => o
  | _ => default
theorem it8_dr : it8.toList.drop 2 = [it8y, it8z] := by kernel_rfl
theorem it10_dr : it10.toList.drop 2 = [it10y] := by kernel_rfl
theorem it8y_g : it8y.guard = none ∧ it10y.guard = none := ⟨by kernel_rfl, by kernel_rfl⟩
theorem it8y_o : it8y.op = .call { callee := .value (.tmp 39), args := #[.tmp 40], argTypes := #[9] } := by kernel_rfl
theorem it10y_o : it10y.op = .call { callee := .value (.tmp 49), args := #[.tmp 50], argTypes := #[9] } := by kernel_rfl
theorem it8y_d : it8y.dst = some 41 ∧ it10y.dst = some 51 := ⟨by kernel_rfl, by kernel_rfl⟩
/-- What a round keeps of the iterator's own. -/
def KeepI (ia ib ic : Nat) (S S' : St) : Prop := S'.mem.get ia = S.mem.get ia ∧ S'.mem.get ib = S.mem.get ib ∧ S'.mem.get ic = S.mem.get ic ∧ S.next ≤ S'.next
theorem setb_get (S : St) (id j : Nat) (cs : List AV) : ({ S with mem := S.mem.set id (some (.box cs)) } : St).mem.get j = if j = id then some (.box cs) else S.mem.get j := T.get_set _ _ _ _
theorem idx_u {S : St} {Q : R → Prop} {l : List UInt8} {c : UInt8} (h : Q (.ret (i64A (idxB c l)) S)) : WC EZ 45 [strS l, strS [c]] S Q :=
  callZ (knIdx l c) (by kernel_rfl) rfl rfl fun a _ _ hs => by
    have := hs l c rfl
    subst this
    exact h
/-- What is done in the rounds. -/
structure Rnd (n : Nat) (rc : RcP) (t0 : T AV) (ia ib ic : Nat) (I : List (List UInt8) → St → Prop) (Ix : St → Prop) : Prop where
  pa : plainC rc.assign = true
  pb : plainC rc.body = true
  sz : rc.tmps.size = n
  pn : rc.p < n
  st : ∀ xs S cs, I xs S → I xs (S.to ib cs)
  ne : ia ≠ ib ∧ ic ≠ ib
  rd : ∀ x xs S, I (x :: xs) S → 2 ≤ S.next → ia < S.next → ib < S.next → ic < S.next → W EZ n rc.assign ⟨t0.set rc.p (some (strS x)), []⟩ S (fun r => ∃ t1 S1, r = .out .normal ⟨t1, []⟩ S1 ∧ W EZ n rc.body ⟨t1, []⟩ S1 (fun r => (∃ f' S', r = .out .normal f' S' ∧ I xs S' ∧ KeepI ia ib ic S S') ∨ (∃ f' S', r = .out .ret f' S' ∧ Ix S')))
section
variable {n : Nat} {rc : RcP} {t0 : T AV} {ia ib ic : Nat} {I : List (List UInt8) → St → Prop} {Ix : St → Prop} {base : Nat} {w0 : World} {im : Nat → Nat → Prop} {l : Nat} {c : UInt8}
/-- Between the rounds. -/
structure LI (base : Nat) (w0 : World) (im : Nat → Nat → Prop) (l : Nat) (rc : RcP) (t0 : T AV) (ia ib ic : Nat) (I : List (List UInt8) → St → Prop) (c : UInt8) (rest : List UInt8) (γ : Gh) (S : St) (w : World) (t : T AV) (tmps : Array Value) : Prop where
  ri : RI gZ base w0 im l rc .ready none γ S w
  f0 : FR γ w t0 rc.tmps
  ft : FR γ w t tmps
  sz : tmps.size = 52
  y0 : t.get 0 = some (.fn (.yield l) [] [])
  y1 : t.get 1 = some (.ptr ia 0)
  y2 : t.get 2 = some (.ptr ib 0)
  y3 : t.get 3 = some (.ptr ic 0)
  ma : S.mem.get ia = some (.box [strS [c]])
  mb : S.mem.get ib = some (.box [strS rest])
  mc : S.mem.get ic = some (.box [i64A 0])
  lt : ia < S.next ∧ ib < S.next ∧ ic < S.next
  inv : I (splitB c rest) S
theorem vr_yield {γ : Gh} {w : World} {v : Value} (h : VR γ w (.fn (.yield l) [] []) v) : v = .func (.yield l) #[] #[] := by
  cases h with
  | fn f first caps x y hx hy h1 h2 =>
    have ex : x = [] := List.eq_nil_of_length_eq_zero hx
    have ey : y = [] := List.eq_nil_of_length_eq_zero hy
    subst ex; subst ey; rfl
theorem vr_strS {γ : Gh} {w : World} {x : List UInt8} {v : Value} (h : VR γ w (strS x) v) : v = .string ⟨⟨x⟩⟩ := by cases h; rfl
/-- A round, from the call of yield on. -/
theorem round_y (H : Rnd n rc t0 ia ib ic I Ix) {x : List UInt8} {xs : List (List UInt8)} {γ : Gh} {S : St} {w : World} {k : Nat} (ri : RI gZ base w0 im l rc .ready none γ S w) (f0 : FR γ w t0 rc.tmps) (hI : I (x :: xs) S) (lt : ia < S.next ∧ ib < S.next ∧ ic < S.next)
    {Post : Ending → World → Prop}
    (h1 : ∀ γ' S' w', RI gZ base w0 im l rc .ready none γ' S' w' → Ev γ w γ' w' → I xs S' → KeepI ia ib ic S S' → Post (.returned (.bool true)) w')
    (h2 : ∀ γ' S' w', RI gZ base w0 im l rc .done (some .ret) γ' S' w' → Ev γ w γ' w' → Ix S' → Post (.returned (.bool false)) w') :
    RoundIn (FF none) k Tryd.prog l rc.fn (rc.tmps.setIfInBounds rc.p (.string ⟨⟨x⟩⟩)) rc.assign rc.body w Post := by
  refine round_in ez_ok ez_intr ez_mix (E := EZ) (t := t0.set rc.p (some (strS x))) (n := n) ri H.pa H.pb ?_ (by rw [Array.size_setIfInBounds]; exact H.sz) (H.rd x xs S hI ri.sr.pos lt.1 lt.2.1 lt.2.2) ?_ ?_ ?_
  · exact FR.put (act := ⟨rc.tmps, []⟩) f0 (some rc.p) n H.sz.symm (.v (.string ⟨⟨x⟩⟩) rfl) (fun d hd => by injection hd with hd; subst hd; exact H.pn)
  · intro f' S' hr γ' w' hri hev hn hl
    rcases hr with ⟨f2, S2, e, h3, h4⟩ | ⟨f2, S2, e, h3⟩
    · injection e with e1 e2 e3; subst e3
      exact h1 γ' _ w' hri hev h3 h4
    · injection e with e1 e2 e3; cases e1
  · intro f' S' hr γ' w' hri hev
    rcases hr with ⟨f2, S2, e, h3, h4⟩ | ⟨f2, S2, e, h3⟩
    · injection e with e1 e2 e3; cases e1
    · injection e with e1 e2 e3; subst e3
      exact h2 γ' _ w' hri hev h3
  · rintro r (⟨f2, S2, e, _⟩ | ⟨f2, S2, e, _⟩)
    · exact .inl ⟨_, _, e⟩
    · exact .inr ⟨_, _, e⟩
theorem it5_w {t : T AV} {S : St} {rest : List UInt8} (y0 : t.get 0 = some (.fn (.yield l) [] [])) (y1 : t.get 1 = some (.ptr ia 0)) (y2 : t.get 2 = some (.ptr ib 0)) (y3 : t.get 3 = some (.ptr ic 0)) (ma : S.mem.get ia = some (.box [strS [c]])) (mb : S.mem.get ib = some (.box [strS rest])) :
    W EZ 52 it5 ⟨t, []⟩ S (fun r => ∃ t', r = .out .normal ⟨t', []⟩ S ∧ t'.get 0 = some (.fn (.yield l) [] []) ∧ t'.get 1 = some (.ptr ia 0) ∧ t'.get 2 = some (.ptr ib 0) ∧ t'.get 3 = some (.ptr ic 0) ∧ t'.get 7 = some (i64A (idxB c rest))) := by
  obtain ⟨fn1, hf1⟩ := fnz_45
  simp (maxSteps := 2000000) (disch := omega) only [W_region, WL_cons, execL_val2, execL_enter2, putL_some2, wantedA, exec1, evalO, T.get_set, callA, mapO, ofOpt, Nat.reduceLT, Nat.reduceEqDiff, if_true, if_false, true_and, List.getElem?_cons_zero, List.nil_append, List.append_nil, cl1_box, ez_P, yl9, it5, itB, Tryd.f43, ma, mb, hf1, y1, y2]
  refine idx_u ?_
  simp (maxSteps := 2000000) (disch := omega) only [WL_nil2, WL_cons, execL_val2, putL_some2, retL_ret2, wantedA, exec1, evalO, T.get_set, ofOpt, Nat.reduceLT, Nat.reduceEqDiff, if_true, if_false, true_and]
  refine ⟨_, rfl, ?_, ?_, ?_, ?_, ?_⟩ <;> simp only [T.get_set, Nat.reduceEqDiff, if_true, if_false, y0, y1, y2, y3, i64A]
theorem it6_stop {t : T AV} {S : St} (y0 : t.get 0 = some (.fn (.yield l) [] [])) (y1 : t.get 1 = some (.ptr ia 0)) (y2 : t.get 2 = some (.ptr ib 0)) (y3 : t.get 3 = some (.ptr ic 0)) (h : t.get 7 = some (i64A (-1))) :
    W EZ 52 it6 ⟨t, []⟩ S (fun r => ∃ t', r = .out (.exit 2) ⟨t', []⟩ S ∧ t'.get 0 = some (.fn (.yield l) [] []) ∧ t'.get 1 = some (.ptr ia 0) ∧ t'.get 2 = some (.ptr ib 0) ∧ t'.get 3 = some (.ptr ic 0)) := by
  have hlt : decide ((-1 : Int) < 0) = true := rfl
  unfold i64A at h
  simp (maxSteps := 2000000) (disch := omega) only [W_skip, W_region, W_seq, W_cond, W_exit, seqQ_normal2, WL_nil2, WL_cons, execL_val2, putL_some2, condW_t2, wantedA, exec1, evalO, T.get_set, ofOpt, ofConst, neNil3, fb_lss, Nat.reduceLT, Nat.reduceEqDiff, if_true, if_false, true_and, Bool.false_eq_true, ez_P, it6, itB, Tryd.f43, h, hlt]
  refine ⟨_, rfl, ?_, ?_, ?_, ?_⟩ <;> simp only [T.get_set, Nat.reduceEqDiff, if_false, y0, y1, y2, y3]
theorem it6_go {t : T AV} {S : St} {i : Nat} (y0 : t.get 0 = some (.fn (.yield l) [] [])) (y1 : t.get 1 = some (.ptr ia 0)) (y2 : t.get 2 = some (.ptr ib 0)) (y3 : t.get 3 = some (.ptr ic 0)) (h : t.get 7 = some (i64A (i : Int))) :
    W EZ 52 it6 ⟨t, []⟩ S (fun r => ∃ t', r = .out .normal ⟨t', []⟩ S ∧ t'.get 0 = some (.fn (.yield l) [] []) ∧ t'.get 1 = some (.ptr ia 0) ∧ t'.get 2 = some (.ptr ib 0) ∧ t'.get 3 = some (.ptr ic 0) ∧ t'.get 7 = some (i64A (i : Int))) := by
  have hlt : decide ((i : Int) < 0) = false := by rw [decide_eq_false_iff_not]; omega
  unfold i64A at h ⊢
  simp (maxSteps := 2000000) (disch := omega) only [W_skip, W_region, W_seq, W_cond, W_exit, seqQ_normal2, WL_nil2, WL_cons, execL_val2, putL_some2, condW_f2, wantedA, exec1, evalO, T.get_set, ofOpt, ofConst, neNil3, fb_lss, Nat.reduceLT, Nat.reduceEqDiff, if_true, if_false, true_and, Bool.false_eq_true, ez_P, it6, itB, Tryd.f43, h, hlt]
  refine ⟨_, rfl, ?_, ?_, ?_, ?_, ?_⟩ <;> simp only [T.get_set, Nat.reduceEqDiff, if_false, y0, y1, y2, y3, h]
theorem it7_w {t : T AV} {S : St} {i : Nat} {rest : List UInt8} (hi : i < rest.length) (hr : rest.length ≤ 100000) (y0 : t.get 0 = some (.fn (.yield l) [] [])) (y1 : t.get 1 = some (.ptr ia 0)) (y2 : t.get 2 = some (.ptr ib 0)) (y3 : t.get 3 = some (.ptr ic 0)) (h : t.get 7 = some (i64A (i : Int))) (mb : S.mem.get ib = some (.box [strS rest])) (mc : S.mem.get ic = some (.box [i64A 0])) :
    W EZ 52 it7 ⟨t, []⟩ S (fun r => ∃ t', r = .out .normal ⟨t', []⟩ S ∧ t'.get 0 = some (.fn (.yield l) [] []) ∧ t'.get 1 = some (.ptr ia 0) ∧ t'.get 2 = some (.ptr ib 0) ∧ t'.get 3 = some (.ptr ic 0) ∧ t'.get 7 = some (i64A (i : Int)) ∧ t'.get 8 = some (strS (rest.take i))) := by
  have hw : IntKind.i64.wrap ((i : Int) + 0) = (i : Int) := by
    rw [Int.add_zero]
    have := wrap_small (i : Int) (by constructor <;> omega)
    exact this
  have hs := sl9_to rest i (by omega)
  unfold i64A at h mc ⊢
  unfold strS at mb ⊢
  simp (maxSteps := 2000000) (disch := omega) only [W_region, WL_nil2, WL_cons, execL_val2, putL_some2, wantedA, exec1, evalO, T.get_set, mapO, ofOpt, neNil3, fb_add, Nat.reduceLT, Nat.reduceEqDiff, if_true, if_false, true_and, List.getElem?_cons_zero, Bool.false_eq_true, Option.toList, List.head?_cons, List.head?_nil, cl1_box, ez_P, ez_G, yl9, yl3, it7, itB, Tryd.f43, h, mb, mc, hw, hs, y2, y3]
  refine ⟨_, rfl, ?_, ?_, ?_, ?_, ?_, ?_⟩ <;> simp only [T.get_set, Nat.reduceEqDiff, if_true, if_false, y0, y1, y2, y3, h]
theorem it8_pre {t : T AV} {S : St} {x : List UInt8} {i : Int} (y0 : t.get 0 = some (.fn (.yield l) [] [])) (y1 : t.get 1 = some (.ptr ia 0)) (y2 : t.get 2 = some (.ptr ib 0)) (y3 : t.get 3 = some (.ptr ic 0)) (h : t.get 7 = some (i64A i)) (h8 : t.get 8 = some (strS x)) :
    WL EZ 52 it8 (it8.toList.take 2) ⟨t, []⟩ S (fun r => ∃ t' S', r = .out .normal ⟨t', []⟩ S' ∧ S' = S ∧ t'.get 0 = some (.fn (.yield l) [] []) ∧ t'.get 1 = some (.ptr ia 0) ∧ t'.get 2 = some (.ptr ib 0) ∧ t'.get 3 = some (.ptr ic 0) ∧ t'.get 7 = some (i64A i) ∧ t'.get 39 = some (.fn (.yield l) [] []) ∧ t'.get 40 = some (strS x)) := by
  unfold strS at h8
  simp (maxSteps := 2000000) (disch := omega) only [WL_nil2, WL_cons, execL_val2, putL_some2, wantedA, exec1, evalO, T.get_set, ofOpt, Nat.reduceLT, Nat.reduceEqDiff, if_false, true_and, List.take_succ_cons, List.take_zero, it8, itB, Tryd.f43, h8, List.take_succ_cons, List.take_zero, y0]
  refine ⟨_, _, rfl, rfl, ?_, ?_, ?_, ?_, ?_, ?_, ?_⟩ <;> simp only [T.get_set, Nat.reduceEqDiff, if_true, if_false, y0, y1, y2, y3, h, strS]
theorem it8_post {t : T AV} {S : St} {i : Int} {bb : Bool} (y0 : t.get 0 = some (.fn (.yield l) [] [])) (y1 : t.get 1 = some (.ptr ia 0)) (y2 : t.get 2 = some (.ptr ib 0)) (y3 : t.get 3 = some (.ptr ic 0)) (h : t.get 7 = some (i64A i)) (h8 : t.get 41 = some (.v (.bool bb))) :
    WL EZ 52 it8 [it8z] ⟨t, []⟩ S (fun r => ∃ t' S', r = .out .normal ⟨t', []⟩ S' ∧ S' = S ∧ t'.get 0 = some (.fn (.yield l) [] []) ∧ t'.get 1 = some (.ptr ia 0) ∧ t'.get 2 = some (.ptr ib 0) ∧ t'.get 3 = some (.ptr ic 0) ∧ t'.get 7 = some (i64A i) ∧ t'.get 42 = some (.v (.bool (!bb)))) := by
  simp (maxSteps := 2000000) (disch := omega) only [WL_nil2, WL_cons, execL_val2, putL_some2, wantedA, exec1, notO_bool, Nat.reduceLT, true_and, List.drop_zero, List.drop_succ_cons, ez_P, ez_G, gnot, it8z, it8, itB, Tryd.f43, h8, List.drop_succ_cons, List.drop_zero]
  refine ⟨_, _, rfl, rfl, ?_, ?_, ?_, ?_, ?_, ?_⟩ <;> simp only [T.get_set, Nat.reduceEqDiff, if_true, if_false, y0, y1, y2, y3, h]
theorem it9_w {t : T AV} {S : St} {i : Nat} {rest : List UInt8} (hi : i < rest.length) (hr : rest.length ≤ 100000) (y0 : t.get 0 = some (.fn (.yield l) [] [])) (y1 : t.get 1 = some (.ptr ia 0)) (y2 : t.get 2 = some (.ptr ib 0)) (y3 : t.get 3 = some (.ptr ic 0)) (h : t.get 7 = some (i64A (i : Int))) (ma : S.mem.get ia = some (.box [strS [c]])) (mb : S.mem.get ib = some (.box [strS rest])) :
    W EZ 52 it9 ⟨t, []⟩ S (fun r => ∃ t', r = .out .normal ⟨t', []⟩ (S.to ib [strS (rest.drop (i + 1))]) ∧ t'.get 0 = some (.fn (.yield l) [] []) ∧ t'.get 1 = some (.ptr ia 0) ∧ t'.get 2 = some (.ptr ib 0) ∧ t'.get 3 = some (.ptr ic 0)) := by
  have hw : IntKind.i64.wrap ((i : Int) + ((1 : Nat) : Int)) = ((i + 1 : Nat) : Int) := wrapS i (by omega)
  have hs := sl9_from rest (i + 1) (by omega)
  have h1 : (([c].length : Nat) : Int) = 1 := rfl
  unfold i64A at h
  unfold strS at ma mb ⊢
  simp (maxSteps := 2000000) (disch := omega) only [W_region, WL_nil2, WL_cons, execL_val2, execL_skip2, putL_none2, putL_some2, wantedA, exec1, evalO, T.get_set, callA, mapO, ofOpt, neNil3, fb_add, Nat.reduceLT, Nat.reduceEqDiff, if_true, if_false, true_and, List.getElem?_cons_zero, List.nil_append, Bool.false_eq_true, Option.toList, List.head?_cons, List.head?_nil, cl1_box, vstB_v, List.length_cons, List.length_nil, Nat.zero_add, Nat.reduceLeDiff, List.drop_succ_cons, List.drop_nil, List.take_zero, ez_P, ez_G, yl9, ys9, it9, itB, Tryd.f43, h, ma, mb, hw, hs, len9, y1, y2]
  refine ⟨_, rfl, ?_, ?_, ?_, ?_⟩ <;> simp only [T.get_set, Nat.reduceEqDiff, if_false, y0, y1, y2, y3]
theorem it10_pre {t : T AV} {S : St} {x : List UInt8} (y0 : t.get 0 = some (.fn (.yield l) [] [])) (y2 : t.get 2 = some (.ptr ib 0)) (mb : S.mem.get ib = some (.box [strS x])) :
    WL EZ 52 it10 (it10.toList.take 2) ⟨t, []⟩ S (fun r => ∃ t' S', r = .out .normal ⟨t', []⟩ S' ∧ S' = S ∧ t'.get 49 = some (.fn (.yield l) [] []) ∧ t'.get 50 = some (strS x)) := by
  unfold strS at mb ⊢
  simp (maxSteps := 2000000) (disch := omega) only [WL_nil2, WL_cons, execL_val2, putL_some2, wantedA, exec1, evalO, T.get_set, ofOpt, Nat.reduceLT, Nat.reduceEqDiff, if_false, true_and, List.getElem?_cons_zero, cl1_box, List.take_succ_cons, List.take_zero, ez_P, yl9, it10, Tryd.f43, mb, List.take_succ_cons, List.take_zero, y0, y2]
  refine ⟨_, _, rfl, rfl, ?_, ?_⟩ <;> simp only [T.get_set, Nat.reduceEqDiff, if_true, if_false]
theorem it0_w {t : T AV} {S : St} (y0 : t.get 0 = some (.fn (.yield l) [] [])) (y1 : t.get 1 = some (.ptr ia 0)) (y2 : t.get 2 = some (.ptr ib 0)) (y3 : t.get 3 = some (.ptr ic 0)) (ma : S.mem.get ia = some (.box [strS [c]])) :
    W EZ 52 it0 ⟨t, []⟩ S (fun r => ∃ t', r = .out .normal ⟨t', []⟩ S ∧ t'.get 0 = some (.fn (.yield l) [] []) ∧ t'.get 1 = some (.ptr ia 0) ∧ t'.get 2 = some (.ptr ib 0) ∧ t'.get 3 = some (.ptr ic 0) ∧ t'.get 11 = some (.v (.bool false))) := by
  have h1 : (([c].length : Nat) : Int) = 1 := rfl
  have h10 : (((1 : Nat) : Int) == 0) = false := rfl
  unfold strS at ma
  simp (maxSteps := 2000000) (disch := omega) only [W_region, WL_nil2, WL_cons, execL_val2, putL_some2, wantedA, exec1, evalO, T.get_set, callA, ofOpt, ofConst, neNil3, fb_eqlI, Nat.reduceLT, Nat.reduceEqDiff, if_true, if_false, true_and, List.getElem?_cons_zero, Bool.false_eq_true, cl1_box, List.length_cons, List.length_nil, Nat.zero_add, ez_P, yl9, it0, Tryd.f43, ma, h10, len9, y1]
  refine ⟨_, rfl, ?_, ?_, ?_, ?_, ?_⟩ <;> simp only [T.get_set, Nat.reduceEqDiff, if_true, if_false, y0, y1, y2, y3]
end
end Go.Ax
noncomputable section
namespace Go.Ax
open Go.RowKit Go.Proofs
set_option linter.unusedVariables false
set_option linter.unusedSimpArgs false
set_option maxRecDepth 100000
section
variable {n : Nat} {rc : RcP} {t0 : T AV} {ia ib ic : Nat} {I : List (List UInt8) → St → Prop} {Ix : St → Prop} {base : Nat} {w0 : World} {im : Nat → Nat → Prop} {l : Nat} {c : UInt8}
theorem plain5 : plainC it0 = true ∧ plainC it5 = true ∧ plainC it6 = true ∧ plainC it7 = true ∧ plainC it9 = true := by
  have := itp
  simp only [Bool.and_eq_true] at this
  exact ⟨this.1.1.1.1, this.1.1.1.2, this.1.1.2, this.1.2, this.2⟩
theorem itB_wp {F : Fence} {k : Nat} {P : Program} {Q : Exit → Act → World → Prop} {a : Act} {w : World} (h : (Code.seq it5 (.seq it6 (.seq it7 (.seq (.seq (.region it8i it8 false) (.cond (.tmp 42) .ret .skip)) it9)))).wpIn F k P Q a w) : itB.wpIn F k P Q a w := by
  rw [itB_is]; exact h
theorem yield_at {P : Program} {st : LoopState} {pe : Option Code} {w : World} {v : Value} (h : w.heap[l]? = some (.loop (rc.at st pe))) : (Instr.yield l #[v]).run P w = .ok (.round l rc.fn (rc.tmps.setIfInBounds rc.p v) rc.assign rc.body) w := by
  have := run_yield (P := P) (args := #[v]) h rfl
  rw [this]
  simp [RcP.at]
/-- The iterator's loop: a round for each part but the last. -/
theorem it_loop (H : Rnd n rc t0 ia ib ic I Ix) {k : Nat} {Q : Exit → Act → World → Prop}
    (hE : ∀ x γ S w t tmps, RI gZ base w0 im l rc .ready none γ S w → FR γ w t0 rc.tmps → FR γ w t tmps → tmps.size = 52 → t.get 0 = some (.fn (.yield l) [] []) → t.get 2 = some (.ptr ib 0) → S.mem.get ib = some (.box [strS x]) → (ia < S.next ∧ ib < S.next ∧ ic < S.next) → I [x] S → Q (.exit 2) ⟨tmps, []⟩ w)
    (hX : ∀ γ S w tmps, RI gZ base w0 im l rc .done (some .ret) γ S w → FR γ w t0 rc.tmps → Ix S → Q .ret ⟨tmps, []⟩ w) :
    ∀ (m : Nat) (rest : List UInt8) (γ : Gh) (S : St) (w : World) (t : T AV) (tmps : Array Value), rest.length ≤ m → rest.length ≤ 100000 → LI base w0 im l rc t0 ia ib ic I c rest γ S w t tmps → LWpIn (FF none) k Tryd.prog (.block 3 itB) Q ⟨tmps, []⟩ w := by
  intro m
  induction m with
  | zero =>
    intro rest γ S w t tmps hm hr L
    have hnil : rest = [] := List.eq_nil_of_length_eq_zero (by omega)
    subst hnil
    refine LWpIn.round (wpIn_block (itB_wp ?_))
    refine wpIn_seq (W_in ez_ok ez_intr ez_mix (E := EZ) [] it5 plain5.2.1 (it5_w (ic := ic) L.y0 L.y1 L.y2 L.y3 L.ma L.mb) L.ri.sr L.ft L.sz L.ri.gr ?_)
    rintro _ ⟨t1, rfl, a0, a1, a2, a3, a7⟩ _ γ1 tm1 w1 s1 e1 f1 n1
    have r1 := L.ri.ext s1 e1
    have a7' : t1.get 7 = some (i64A (-1)) := a7
    refine wpIn_seq (W_in ez_ok ez_intr ez_mix (E := EZ) [] it6 plain5.2.2.1 (it6_stop a0 a1 a2 a3 a7') r1.sr f1 n1 r1.gr ?_)
    rintro _ ⟨t2, rfl, b0, b1, b2, b3⟩ _ γ2 tm2 w2 s2 e2 f2 n2
    exact hE [] γ2 S w2 t2 tm2 (r1.ext s2 e2) ((L.f0.mono e1.ev).mono e2.ev) f2 n2 b0 b2 L.mb L.lt L.inv
  | succ m ih =>
    intro rest γ S w t tmps hm hr L
    refine LWpIn.round (wpIn_block (itB_wp ?_))
    refine wpIn_seq (W_in ez_ok ez_intr ez_mix (E := EZ) [] it5 plain5.2.1 (it5_w (ic := ic) L.y0 L.y1 L.y2 L.y3 L.ma L.mb) L.ri.sr L.ft L.sz L.ri.gr ?_)
    rintro _ ⟨t1, rfl, a0, a1, a2, a3, a7⟩ _ γ1 tm1 w1 s1 e1 f1 n1
    have r1 := L.ri.ext s1 e1
    have g1 := L.f0.mono e1.ev
    rcases idx_split c rest with ⟨h1, h2⟩ | ⟨i, h1, hi, h2⟩
    · rw [h1] at a7
      refine wpIn_seq (W_in ez_ok ez_intr ez_mix (E := EZ) [] it6 plain5.2.2.1 (it6_stop a0 a1 a2 a3 a7) r1.sr f1 n1 r1.gr ?_)
      rintro _ ⟨t2, rfl, b0, b1, b2, b3⟩ _ γ2 tm2 w2 s2 e2 f2 n2
      exact hE rest γ2 S w2 t2 tm2 (r1.ext s2 e2) (g1.mono e2.ev) f2 n2 b0 b2 L.mb L.lt (by rw [← h2]; exact L.inv)
    · rw [h1] at a7
      have hinv := L.inv
      rw [h2] at hinv
      refine wpIn_seq (W_in ez_ok ez_intr ez_mix (E := EZ) [] it6 plain5.2.2.1 (it6_go a0 a1 a2 a3 a7) r1.sr f1 n1 r1.gr ?_)
      rintro _ ⟨t2, rfl, b0, b1, b2, b3, b7⟩ _ γ2 tm2 w2 s2 e2 f2 n2
      have r2 := r1.ext s2 e2
      have g2 := g1.mono e2.ev
      refine wpIn_seq (W_in ez_ok ez_intr ez_mix (E := EZ) [] it7 plain5.2.2.2.1 (it7_w hi hr b0 b1 b2 b3 b7 L.mb L.mc) r2.sr f2 n2 r2.gr ?_)
      rintro _ ⟨t3, rfl, c0, c1, c2, c3, c7, c8⟩ _ γ3 tm3 w3 s3 e3 f3 n3
      have r3 := r2.ext s3 e3
      have g3 := g2.mono e3.ev
      refine wpIn_seq (wpIn_seq (wpIn_region_list ?_))
      rw [← it8_is]
      refine WL_in ez_ok ez_intr ez_mix (E := EZ) [] (by kernel_rfl) (it8_pre c0 c1 c2 c3 c7 c8) r3.sr f3 n3 r3.gr ?_
      rintro t4 _ ⟨rfl, d0, d1, d2, d3, d7, d39, d40⟩ γ4 tm4 w4 s4 e4 f4 n4
      have r4 := r3.ext s4 e4
      have g4 := g3.mono e4.ev
      rw [it8_dr]
      have v39 := vr_yield (f4 39 _ d39).2
      have v40 := vr_strS (f4 40 _ d40).2
      refine yield_step it8y_g.1 it8y_o it8y_d.1 v39 v40 (yield_at r4.ol.at_) ?_
      refine round_y H r4 g4 hinv L.lt ?_ ?_
      · intro γ5 S5 w5 r5 ev5 hI5 hK5
        refine ⟨true, rfl, ?_⟩
        have f5 : FR γ5 w5 (t4.set 41 (some (.v (.bool true)))) (tm4.setIfInBounds 41 (.bool true)) := FR.put (act := ⟨tm4, []⟩) (f4.mono ev5) (some 41) 52 n4.symm (.v (.bool true) rfl) (fun d hd => by cases hd; decide)
        have n5 : (tm4.setIfInBounds 41 (.bool true)).size = 52 := by rw [Array.size_setIfInBounds]; exact n4
        have G : ∀ j, j ≠ 41 → (t4.set 41 (some (.v (.bool true)))).get j = t4.get j := fun j hj => by rw [T.get_set, if_neg hj]
        have g5 := g4.mono ev5
        rw [show [it8z] = [it8z] ++ [] from rfl]
        refine WL_in ez_ok ez_intr ez_mix (E := EZ) [] (by kernel_rfl) (it8_post (bb := true) ((G 0 (by decide)).trans d0) ((G 1 (by decide)).trans d1) ((G 2 (by decide)).trans d2) ((G 3 (by decide)).trans d3) ((G 7 (by decide)).trans d7) (by rw [T.get_set, if_pos rfl])) r5.sr f5 n5 r5.gr ?_
        rintro t6 S5 ⟨rfl, k0, k1, k2, k3, k7, k42⟩ γ6 tm6 w6 s6 e6 f6 n6
        have r6 := r5.ext s6 e6
        have g6 := g5.mono e6.ev
        have hv : VR γ6 w6 (.v (.bool false)) (tm6.getD 42 undef) := (f6 42 _ k42).2
        have ev42 : Act.eval ⟨tm6, []⟩ (.tmp 42) = .bool false := by
          show tm6.getD 42 undef = _
          generalize tm6.getD 42 undef = z at hv
          cases hv; rfl
        refine wpIn_cond_false ev42 (wpIn_skip ?_)
        have mb6 : S5.mem.get ib = some (.box [strS rest]) := hK5.2.1.trans L.mb
        have ma6 : S5.mem.get ia = some (.box [strS [c]]) := hK5.1.trans L.ma
        have mc6 : S5.mem.get ic = some (.box [i64A 0]) := hK5.2.2.1.trans L.mc
        refine W_in ez_ok ez_intr ez_mix (E := EZ) [] it9 plain5.2.2.2.2 (it9_w hi hr k0 k1 k2 k3 k7 ma6 mb6) r6.sr f6 n6 r6.gr ?_
        rintro _ ⟨t7, rfl, q0, q1, q2, q3⟩ _ γ7 tm7 w7 s7 e7 f7 n7
        have r7 := r6.ext s7 e7
        have g7 := g6.mono e7.ev
        have hl := List.length_drop (i := i + 1) (l := rest)
        have hlt := L.lt
        have hn5 := hK5.2.2.2
        refine ih (rest.drop (i + 1)) γ7 _ w7 t7 tm7 (by omega) (by omega) ⟨r7, g7, f7, n7, q0, q1, q2, q3, ?_, ?_, ?_, ?_, H.st _ _ _ hI5⟩
        · rw [to_get, if_neg H.ne.1]; exact ma6
        · rw [to_get, if_pos rfl]
        · rw [to_get, if_neg H.ne.2]; exact mc6
        · rw [to_next]; omega
      · intro γ5 S5 w5 r5 ev5 hx5
        refine ⟨false, rfl, ?_⟩
        have f5 : FR γ5 w5 (t4.set 41 (some (.v (.bool false)))) (tm4.setIfInBounds 41 (.bool false)) := FR.put (act := ⟨tm4, []⟩) (f4.mono ev5) (some 41) 52 n4.symm (.v (.bool false) rfl) (fun d hd => by cases hd; decide)
        have n5 : (tm4.setIfInBounds 41 (.bool false)).size = 52 := by rw [Array.size_setIfInBounds]; exact n4
        have G : ∀ j, j ≠ 41 → (t4.set 41 (some (.v (.bool false)))).get j = t4.get j := fun j hj => by rw [T.get_set, if_neg hj]
        rw [show [it8z] = [it8z] ++ [] from rfl]
        refine WL_in ez_ok ez_intr ez_mix (E := EZ) [] (by kernel_rfl) (it8_post (bb := false) ((G 0 (by decide)).trans d0) ((G 1 (by decide)).trans d1) ((G 2 (by decide)).trans d2) ((G 3 (by decide)).trans d3) ((G 7 (by decide)).trans d7) (by rw [T.get_set, if_pos rfl])) r5.sr f5 n5 r5.gr ?_
        rintro t6 S5 ⟨rfl, k0, k1, k2, k3, k7, k42⟩ γ6 tm6 w6 s6 e6 f6 n6
        have r6 := r5.ext s6 e6
        have hv : VR γ6 w6 (.v (.bool true)) (tm6.getD 42 undef) := (f6 42 _ k42).2
        have ev42 : Act.eval ⟨tm6, []⟩ (.tmp 42) = .bool true := by
          show tm6.getD 42 undef = _
          generalize tm6.getD 42 undef = z at hv
          cases hv; rfl
        refine wpIn_cond_true ev42 (wpIn_ret ?_)
        exact hX γ6 S5 w6 tm6 r6 ((g4.mono ev5).mono e6.ev) hx5
end
end Go.Ax
noncomputable section
namespace Go.Ax
open Go.RowKit Go.Proofs
set_option linter.unusedVariables false
set_option linter.unusedSimpArgs false
set_option maxRecDepth 100000
section
variable {n : Nat} {rc : RcP} {t0 : T AV} {ia ib ic : Nat} {I : List (List UInt8) → St → Prop} {Ix : St → Prop} {base : Nat} {w0 : World} {im : Nat → Nat → Prop} {l : Nat} {c : UInt8}
theorem it_res (tmps : Array Value) (w : World) : (results Tryd.f43 tmps).run Tryd.prog w = .ok (.tuple #[]) w := by
  have : Tryd.f43.results = #[] := by kernel_rfl
  simp [results, this]
/-- What the iterator comes to. -/
def ItEnd (base : Nat) (w0 : World) (im : Nat → Nat → Prop) (l : Nat) (rc : RcP) (t0 : T AV) (I : List (List UInt8) → St → Prop) (Ix : St → Prop) (e : Ending) (w' : World) : Prop :=
  (∃ v, e = .returned v) ∧ ((∃ γ S, RI gZ base w0 im l rc .ready none γ S w' ∧ FR γ w' t0 rc.tmps ∧ I [] S) ∨ (∃ γ S, RI gZ base w0 im l rc .done (some .ret) γ S w' ∧ FR γ w' t0 rc.tmps ∧ Ix S))
theorem ItEnd.post {e : Ending} {act : Act} {w' : World} (hd : act.defers = []) {R : Ending → World → Prop} (h : R (.returned (.tuple #[])) w') : bodyPost Tryd.prog Tryd.f43 R .ret act w' ∧ bodyPost Tryd.prog Tryd.f43 R .normal act w' :=
  ⟨⟨hd, _, it_res _ _, h⟩, ⟨hd, _, it_res _ _, h⟩⟩
theorem iter_in (H : Rnd n rc t0 ia ib ic I Ix) {k : Nat} {rest : List UInt8} (hr : rest.length ≤ 100000) {γ : Gh} {S : St} {w : World} {lb : List Value} (ri : RI gZ base w0 im l rc .ready none γ S w) (f0 : FR γ w t0 rc.tmps)
    (hlb : VRL γ w [.ptr ia 0, .ptr ib 0, .ptr ic 0] lb) (ma : S.mem.get ia = some (.box [strS [c]])) (mb : S.mem.get ib = some (.box [strS rest])) (mc : S.mem.get ic = some (.box [i64A 0])) (lt : ia < S.next ∧ ib < S.next ∧ ic < S.next) (inv : I (splitB c rest) S) :
    CallsIn (FF none) k Tryd.prog 43 (#[.func (.yield l) #[] #[]] ++ lb.toArray) w (ItEnd base w0 im l rc t0 I Ix) := by
  refine callsIn_of_wp (fn := Tryd.f43) Tryd.func43 f43_is trivial ?_
  have hy : VR γ w (.fn (.yield l) [] []) (.func (.yield l) #[] #[]) := .fn _ [] [] [] [] rfl rfl (fun k h => absurd h (Nat.not_lt_zero k)) (fun k h => absurd h (Nat.not_lt_zero k))
  have hvl : VRL γ w [.fn (.yield l) [] [], .ptr ia 0, .ptr ib 0, .ptr ic 0] (.func (.yield l) #[] #[] :: lb) := VRL.cons hy hlb
  have hfr := initT_FR hvl 52
  have hl3 : lb.length = 3 := hlb.1
  have hsz : ((Value.func (.yield l) #[] #[] :: lb).toArray ++ Array.replicate (52 - (Value.func (.yield l) #[] #[] :: lb).toArray.size) undef).size = 52 := by simp; omega
  have hnt : Tryd.f43.ntmps = 52 := by kernel_rfl
  have harr : (#[.func (.yield l) #[] #[]] ++ lb.toArray : Array Value) = (Value.func (.yield l) #[] #[] :: lb).toArray := by simp
  rw [hnt, harr]
  generalize (Value.func (.yield l) #[] #[] :: lb).toArray ++ Array.replicate (52 - (Value.func (.yield l) #[] #[] :: lb).toArray.size) undef = tm at hfr hsz ⊢
  have y0 : (initT [AV.fn (.yield l) [] [], .ptr ia 0, .ptr ib 0, .ptr ic 0] 0).get 0 = some (.fn (.yield l) [] []) := by rw [initT_get]; rfl
  have y1 : (initT [AV.fn (.yield l) [] [], .ptr ia 0, .ptr ib 0, .ptr ic 0] 0).get 1 = some (.ptr ia 0) := by rw [initT_get]; rfl
  have y2 : (initT [AV.fn (.yield l) [] [], .ptr ia 0, .ptr ib 0, .ptr ic 0] 0).get 2 = some (.ptr ib 0) := by rw [initT_get]; rfl
  have y3 : (initT [AV.fn (.yield l) [] [], .ptr ia 0, .ptr ib 0, .ptr ic 0] 0).get 3 = some (.ptr ic 0) := by rw [initT_get]; rfl
  refine wpIn_seq (wpIn_seq (W_in ez_ok ez_intr ez_mix (E := EZ) [] it0 plain5.1 (it0_w y0 y1 y2 y3 ma) ri.sr hfr hsz ri.gr ?_))
  rintro _ ⟨t1, rfl, a0, a1, a2, a3, a11⟩ _ γ1 tm1 w1 s1 e1 f1 n1
  have r1 := ri.ext s1 e1
  have g1 := f0.mono e1.ev
  have hv : VR γ1 w1 (.v (.bool false)) (tm1.getD 11 undef) := (f1 11 _ a11).2
  have ev11 : Act.eval ⟨tm1, []⟩ (.tmp 11) = .bool false := by
    show tm1.getD 11 undef = _
    generalize tm1.getD 11 undef = z at hv
    cases hv; rfl
  refine wpIn_cond_false ev11 (wpIn_skip ?_)
  refine wpIn_seq (wpIn_block (LWpIn.loop (it_loop (c := c) H (k := k) ?_ ?_ rest.length rest γ1 S w1 t1 tm1 (Nat.le_refl _) hr ⟨r1, g1, f1, n1, a0, a1, a2, a3, ma, mb, mc, lt, inv⟩)))
  · intro x γ2 S2 w2 t2 tm2 r2 g2 f2 n2 b0 b2 mb2 lt2 hI
    show (Code.region it10i it10 false).wpIn (FF none) k Tryd.prog (bodyPost Tryd.prog Tryd.f43 (ItEnd base w0 im l rc t0 I Ix)) ⟨tm2, []⟩ w2
    refine wpIn_region_list ?_
    rw [← it10_is]
    refine WL_in ez_ok ez_intr ez_mix (E := EZ) [] (by kernel_rfl) (it10_pre b0 b2 mb2) r2.sr f2 n2 r2.gr ?_
    rintro t4 S4 ⟨rfl, d49, d50⟩ γ4 tm4 w4 s4 e4 f4 n4
    have r4 := r2.ext s4 e4
    have g4 := g2.mono e4.ev
    rw [it10_dr]
    have v49 := vr_yield (f4 49 _ d49).2
    have v50 := vr_strS (f4 50 _ d50).2
    refine yield_step it8y_g.2 it10y_o it8y_d.2 v49 v50 (yield_at r4.ol.at_) ?_
    refine round_y H r4 g4 hI lt2 ?_ ?_
    · intro γ5 S5 w5 r5 ev5 hI5 hK5
      exact ⟨true, rfl, (ItEnd.post (e := .returned (.tuple #[])) rfl ⟨⟨_, rfl⟩, .inl ⟨γ5, S5, r5, g4.mono ev5, hI5⟩⟩).2⟩
    · intro γ5 S5 w5 r5 ev5 hx5
      exact ⟨false, rfl, (ItEnd.post (e := .returned (.tuple #[])) rfl ⟨⟨_, rfl⟩, .inr ⟨γ5, S5, r5, g4.mono ev5, hx5⟩⟩).2⟩
  · intro γ2 S2 w2 tm2 r2 g2 hx
    exact (ItEnd.post (e := .returned (.tuple #[])) rfl ⟨⟨_, rfl⟩, .inr ⟨γ2, S2, r2, g2, hx⟩⟩).1
end
/-- **for w := range strings.SplitSeq(s, c) { .. }** -/
theorem range_split {n : Nat} {tmps : Array Value} {p tg : Tmp} {assign body : Code} {t0 : T AV} {ia ib ic : Nat} {I : List (List UInt8) → St → Prop} {Ix : St → Prop} (H : ∀ fn D, Rnd n ⟨fn, tmps, p, assign, body, D⟩ t0 ia ib ic I Ix) {base : Nat} {w0 : World} {im : Nat → Nat → Prop} {c : UInt8}
    {k : Nat} {rest : List UInt8} (hr : rest.length ≤ 100000) {γ : Gh} {S : St} {w : World} (hS : SR base w0 γ S w) (hi : ImB base γ im) (hg : GR γ w gZ) (f0 : FR γ w t0 tmps) (htg : t0.get tg = some (.fn (.func 43) [] [.ptr ia 0, .ptr ib 0, .ptr ic 0]))
    (ma : S.mem.get ia = some (.box [strS [c]])) (mb : S.mem.get ib = some (.box [strS rest])) (mc : S.mem.get ic = some (.box [i64A 0])) (lt : ia < S.next ∧ ib < S.next ∧ ic < S.next) (inv : I (splitB c rest) S)
    {Q : Exit → Act → World → Prop}
    (hdone : ∀ D γ' S' w', SR base w0 γ' S' w' → ImB base γ' im → GR γ' w' gZ → FR γ' w' t0 tmps → Odd base γ' S' w' D (.deferred (some [])) → I [] S' → Q .normal ⟨tmps, [{ target := .collected D, args := #[] }]⟩ w')
    (hstop : ∀ D γ' S' w', SR base w0 γ' S' w' → ImB base γ' im → GR γ' w' gZ → FR γ' w' t0 tmps → Odd base γ' S' w' D (.deferred (some [])) → Ix S' → Q .ret ⟨tmps, [{ target := .collected D, args := #[] }]⟩ w') :
    (Code.rangeFunc (.tmp tg) #[p] assign body).wpIn (FF none) k Tryd.prog Q ⟨tmps, []⟩ w := by
  refine wpIn_rangeFunc fun fn _ => ?_
  have hv := (f0 tg _ htg).2
  obtain ⟨lb, hgv, hlb⟩ : ∃ lb : List Value, tmps.getD tg undef = .func (.func 43) #[] lb.toArray ∧ VRL γ w [.ptr ia 0, .ptr ib 0, .ptr ic 0] lb := by
    generalize tmps.getD tg undef = z at hv
    cases hv with
    | fn f first caps x y hx hy h1 h2 =>
      have ex : x = [] := List.eq_nil_of_length_eq_zero hx
      subst ex
      exact ⟨y, rfl, hy, fun k h h' => h2 k h h'⟩
  have hlen := hS.hbase
  let rc : RcP := ⟨fn, tmps, p, assign, body, w.heap.size⟩
  obtain ⟨s1, x1⟩ := hS.after ((Below.refl w.heap.size w).alloc (Nat.le_refl _) (.deferred (some [])))
  obtain ⟨s2, x2⟩ := s1.after ((Below.refl (w.alloc (.deferred (some []))).heap.size (w.alloc (.deferred (some [])))).alloc (Nat.le_refl _) (.loop (rc.at .ready none)))
  have x := x1.trans x2
  have ri : RI gZ base w0 im (w.heap.size + 1) rc .ready none γ S ((w.alloc (.deferred (some []))).alloc (.loop (rc.at .ready none))) := by
    refine ⟨s2, hi, ⟨?_, by omega, fun id c s hm hl => ?_⟩, ⟨?_, by show base ≤ w.heap.size; omega, fun id c s hm hl => ?_⟩, hg.mono x.ev, by show w.heap.size ≠ w.heap.size + 1; omega⟩
    · have := World.alloc_heap_new (w.alloc (.deferred (some []))) (.loop (rc.at .ready none)); rwa [World.size_alloc] at this
    · have := hS.inb id _ _ hl; omega
    · show _ = _
      exact (Below.heap_alloc _ _ _ (by show w.heap.size < _; simp)).trans (World.alloc_heap_new w _)
    · have hl : γ.loc id = some (w.heap.size, s) := hl
      have := hS.inb id _ _ hl; omega
  refine ⟨w.heap.size + 1, [{ target := .collected w.heap.size, args := #[] }], (w.alloc (.deferred (some []))).alloc (.loop (rc.at .ready none)), { target := .fn (.func 43) lb.toArray, args := #[.func (.yield (w.heap.size + 1)) #[] #[]] }, (w.alloc (.deferred (some []))).alloc (.loop (rc.at .ready none)), 43, #[.func (.yield (w.heap.size + 1)) #[] #[]] ++ lb.toArray, (w.alloc (.deferred (some []))).alloc (.loop (rc.at .ready none)), run_enterLoop_outer fn tmps #[p] assign body, ?_, fun _ _ => trivial, ?_, fun h => (by cases h), ?_⟩
  · have he : Act.eval ⟨tmps, []⟩ (.tmp tg) = .func (.func 43) #[] lb.toArray := hgv
    simp only [resolve, he]
    simp [go_sem]
  · exact invoke_run (E := EZ) Tryd.func43 (by kernel_rfl) f43_is lb.toArray #[.func (.yield (w.heap.size + 1)) #[] #[]] _
  · refine (iter_in (H fn w.heap.size) (k := k - 1) (c := c) hr ri (f0.mono x.ev) (hlb.mono x.ev) ma mb mc lt inv).mono ?_
    rintro e w2 ⟨⟨v, rfl⟩, ⟨γ2, S2, r2, f2, hI⟩ | ⟨γ2, S2, r2, f2, hx⟩⟩
    · obtain ⟨r3, ev3⟩ := r2.put .exhausted none
      exact ⟨none, _, run_endLoop r2.ol.at_ (by intro h; cases h), hdone _ γ2 S2 _ r3.sr r3.imb r3.gr (f2.mono ev3) r3.od hI⟩
    · obtain ⟨r3, ev3⟩ := r2.put .exhausted (some .ret)
      exact ⟨some .ret, _, run_endLoop r2.ol.at_ (by intro h; cases h), wpIn_ret (hstop _ γ2 S2 _ r3.sr r3.imb r3.gr (f2.mono ev3) r3.od hx)⟩
end Go.Ax
noncomputable section
namespace Go.Ax
open Go.RowKit Go.Proofs
set_option linter.unusedVariables false
set_option linter.unusedSimpArgs false
set_option maxRecDepth 100000
theorem sp_42 : EZ.I 42 = none := by
  show (Bool.rec (Bool.rec (Bool.rec none (some pintB) (Nat.beq 42 56)) (some joinB) (Nat.beq 42 17)) (some (pureG gZ Tryd.prog SpecZ 42)) (knz 42) : Option (List AV → St → R)) = _
  rw [show knz 42 = false from by decide]
  rfl
theorem sp_75 : EZ.I 75 = none := by
  show (Bool.rec (Bool.rec (Bool.rec none (some pintB) (Nat.beq 75 56)) (some joinB) (Nat.beq 75 17)) (some (pureG gZ Tryd.prog SpecZ 75)) (knz 75) : Option (List AV → St → R)) = _
  rw [show knz 75 = false from by decide]
  rfl
theorem sp_49 : EZ.I 49 = none := by
  show (Bool.rec (Bool.rec (Bool.rec none (some pintB) (Nat.beq 49 56)) (some joinB) (Nat.beq 49 17)) (some (pureG gZ Tryd.prog SpecZ 49)) (knz 49) : Option (List AV → St → R)) = _
  rw [show knz 49 = false from by decide]
  rfl
theorem fnz_42 : ∃ fn, EZ.F 42 = some fn := Option.isSome_iff_exists.1 (by kernel_rfl)
theorem fnz_75 : ∃ fn, EZ.F 75 = some fn := Option.isSome_iff_exists.1 (by kernel_rfl)
theorem fnz_65 : ∃ fn, EZ.F 65 = some fn := Option.isSome_iff_exists.1 (by kernel_rfl)
theorem fnz_49 : ∃ fn, EZ.F 49 = some fn := Option.isSome_iff_exists.1 (by kernel_rfl)
theorem hasp_w {l : List UInt8} {S : St} {Q : R → Prop} (hl : l.length ≤ 100000) (h : Q (.ret (.v (.bool (decide (l.head? = some 45)))) S)) : WC EZ 42 [strS l, strS [45]] S Q := by
  refine WC_fn Tryd.f42 sp_42 (by kernel_rfl) (by kernel_rfl) (show (_ : Nat) ≤ _ from by show (_ : Nat) ≤ _; simp [Tryd.f42]) ?_
  cases l with
  | nil =>
    have hge : decide ((([] : List UInt8).length : Int) ≥ ((([45] : List UInt8).length : Nat) : Int)) = false := rfl
    have hge2 : decide (((0 : Nat) : Int) ≥ ((1 : Nat) : Int)) = false := rfl
    unfold strS
    simp (maxSteps := 2000000) (disch := omega) only [W_region, W_seq, W_ret, seqQ_normal2, WL_nil2, WL_cons, execL_no, execL_val2, putL_some2, wantedA, exec1, evalO, initT, T.get_set, T.get_leaf, callA, ofOpt, ofConst, neNil3, finW_ret, giveW, resultsA, tupA, fb_geq, neNil9, Nat.reduceLT, Nat.reduceEqDiff, if_true, if_false, true_and, Option.getD_some, List.getElem?_toArray, List.getElem?_cons_succ, List.getElem?_cons_zero, Option.bind_some, Bool.false_eq_true, Bool.not_true, Bool.false_beq, List.length_cons, List.length_nil, Nat.zero_add, ez_P, ez_G, neNil9, len9, List.length_nil, Tryd.f42, hge2]
    exact h
  | cons c r =>
    have hge : decide ((((c :: r : List UInt8).length : Nat) : Int) ≥ ((1 : Nat) : Int)) = true := by rw [decide_eq_true_eq, List.length_cons]; omega
    have hge2 : decide ((((r.length + 1 : Nat)) : Int) ≥ ((1 : Nat) : Int)) = true := by rw [decide_eq_true_eq]; omega
    have hs := sl9_to (c :: r) 1 (by simp)
    have ht : (c :: r).take 1 = [c] := rfl
    rw [ht] at hs
    have hd : decide ([c] = [(45 : UInt8)]) = decide (c = 45) := by
      by_cases e : c = 45
      · subst e; rfl
      · rw [decide_eq_false e, decide_eq_false (by simpa using e)]
    have hq : decide ((c :: r).head? = some (45 : UInt8)) = decide (c = 45) := by
      by_cases e : c = 45
      · subst e; rfl
      · rw [decide_eq_false e, decide_eq_false (by simpa using e)]
    rw [hq] at h
    unfold strS
    cases hc : decide (c = 45) with
    | true =>
      rw [hc] at h hd
      simp (maxSteps := 2000000) (disch := omega) only [W_region, W_seq, W_ret, seqQ_normal2, WL_nil2, WL_cons, execL_val2, putL_some2, wantedA, exec1, evalO, initT, T.get_set, T.get_leaf, callA, mapO, ofOpt, ofConst, neNil3, finW_ret, giveW, resultsA, tupA, fb_geq, fb_eqS, neNil9, Nat.reduceLT, Nat.reduceEqDiff, if_true, if_false, true_and, Option.getD_some, List.getElem?_toArray, List.getElem?_cons_succ, List.getElem?_cons_zero, Option.bind_some, beq_self_eq_true, Bool.false_eq_true, Option.toList, List.head?_cons, List.head?_nil, List.length_cons, List.length_nil, Nat.zero_add, ez_P, ez_G, neNil9, len9, fb_eqS, hs, hd, List.length_cons, List.length_nil, Tryd.f42, hge2]
      exact h
    | false =>
      rw [hc] at h hd
      simp (maxSteps := 2000000) (disch := omega) only [W_region, W_seq, W_ret, seqQ_normal2, WL_nil2, WL_cons, execL_val2, putL_some2, wantedA, exec1, evalO, initT, T.get_set, T.get_leaf, callA, mapO, ofOpt, ofConst, neNil3, finW_ret, giveW, resultsA, tupA, fb_geq, fb_eqS, neNil9, Nat.reduceLT, Nat.reduceEqDiff, if_true, if_false, true_and, Option.getD_some, List.getElem?_toArray, List.getElem?_cons_succ, List.getElem?_cons_zero, Option.bind_some, beq_self_eq_true, Bool.false_eq_true, Option.toList, List.head?_cons, List.head?_nil, List.length_cons, List.length_nil, Nat.zero_add, ez_P, ez_G, neNil9, len9, fb_eqS, hs, hd, List.length_cons, List.length_nil, Tryd.f42, hge2]
      exact h
theorem trim1_w {l : List UInt8} {S : St} {Q : R → Prop} (hl : l.length ≤ 100000) (h : Q (.ret (strS (if l.head? = some 45 then l.drop 1 else l)) S)) : WC EZ 75 [strS l, strS [45]] S Q := by
  refine WC_fn Tryd.f75 sp_75 (by kernel_rfl) (by kernel_rfl) (show (_ : Nat) ≤ _ from by show (_ : Nat) ≤ _; simp [Tryd.f75]) ?_
  obtain ⟨fn1, hf1⟩ := fnz_42
  unfold strS
  simp (maxSteps := 2000000) (disch := omega) only [W_region, W_seq, seqQ_normal2, WL_nil2, WL_cons, execL_val2, execL_enter2, putL_some2, wantedA, exec1, evalO, initT, T.get_set, T.get_leaf, callA, mapO, ofOpt, ofConst, Nat.reduceLT, Nat.reduceEqDiff, if_true, if_false, true_and, Option.getD_some, List.nil_append, List.append_nil, Nat.zero_add, Tryd.f75, hf1]
  refine hasp_w hl ?_
  by_cases hc : l.head? = some 45
  · have e1 : decide (l.head? = some (45 : UInt8)) = true := decide_eq_true hc
    rw [if_pos hc] at h
    have hpos : 1 ≤ l.length := by cases l with
      | nil => cases hc
      | cons => simp
    have hs := sl9_from l 1 hpos
    simp (maxSteps := 2000000) (disch := omega) only [W_skip, W_region, W_seq, W_cond, W_ret, seqQ_normal2, seqQ_ret2, WL_nil2, WL_cons, execL_val2, putL_some2, retL_ret2, condW_t2, wantedA, exec1, evalO, T.get_set, T.get_leaf, callA, mapO, ofOpt, finW_ret, giveW, resultsA, tupA, Nat.reduceLT, Nat.reduceEqDiff, if_true, if_false, true_and, Option.toList, List.head?_cons, List.head?_nil, List.length_cons, List.length_nil, Nat.zero_add, ez_P, ez_G, len9, e1, hs, List.length_cons, List.length_nil, Nat.zero_add]
    exact h
  · have e1 : decide (l.head? = some (45 : UInt8)) = false := decide_eq_false hc
    rw [if_neg hc] at h
    simp (maxSteps := 2000000) (disch := omega) only [W_skip, W_region, W_seq, W_cond, W_ret, seqQ_normal2, WL_nil2, WL_cons, execL_val2, putL_some2, retL_ret2, condW_f2, wantedA, exec1, evalO, T.get_set, T.get_leaf, callA, mapO, ofOpt, finW_ret, giveW, resultsA, tupA, Nat.reduceLT, Nat.reduceEqDiff, if_true, if_false, true_and, Option.toList, List.head?_cons, List.head?_nil, List.length_cons, List.length_nil, Nat.zero_add, ez_P, ez_G, len9, e1]
    exact h
theorem trim_k (l : List UInt8) (hl : l.length ≤ 100000) : KnZ 65 [strS l, strS [45]] := by
  refine bodyZ Tryd.f65 (by kernel_rfl) (by kernel_rfl) (show (_ : Nat) ≤ _ from by show (_ : Nat) ≤ _; simp [Tryd.f65]) ?_
  obtain ⟨fn1, hf1⟩ := fnz_75
  unfold strS
  simp (maxSteps := 2000000) (disch := omega) only [W_region, W_seq, seqQ_normal2, WL_nil2, WL_cons, execL_val2, execL_enter2, putL_some2, wantedA, exec1, evalO, initT, T.get_set, T.get_leaf, callA, mapO, ofOpt, ofConst, Nat.reduceLT, Nat.reduceEqDiff, if_true, if_false, true_and, Option.getD_some, List.nil_append, List.append_nil, Nat.zero_add, Tryd.f65, hf1]
  refine trim1_w hl ?_
  unfold strS
  simp (maxSteps := 2000000) (disch := omega) only [W_ret, seqQ_normal2, WL_nil2, WL_cons, execL_val2, putL_some2, retL_ret2, wantedA, exec1, evalO, T.get_set, T.get_leaf, ofOpt, finW_ret, giveW, resultsA, tupA, Nat.reduceLT, Nat.reduceEqDiff, if_true, if_false, true_and]
  refine ⟨_, _, rfl, rfl, ?_⟩
  intro l' e _
  simp only [List.cons.injEq, and_true] at e
  rw [← str_inj e.1]
  rfl
theorem trim_u {l : List UInt8} {S : St} {Q : R → Prop} (hl : l.length ≤ 100000) (h : Q (.ret (strS (if l.head? = some 45 then l.drop 1 else l)) S)) : WC EZ 65 [strS l, strS [45]] S Q :=
  callZ (trim_k l hl) (by kernel_rfl) rfl rfl fun a _ _ hs => by
    have := hs l rfl hl
    subst this
    exact h
theorem truth_k (l : List UInt8) (hl : l.length ≤ 100000) : KnZ 46 [strS l] := by
  refine bodyZ Tryd.f46 (by kernel_rfl) (by kernel_rfl) (show (_ : Nat) ≤ _ from by show (_ : Nat) ≤ _; simp [Tryd.f46]) ?_
  have fin : ∀ (x y : Int) (S' : St), valF l true = (x, y.toNat) → 0 ≤ y → ∃ a S'', R.ret (.tup [.v (.int .i64 x), .v (.int .i64 y)]) S' = R.ret a S'' ∧ freeV a = true ∧ SpecZ 46 [strS l] (clean a) := fun x y S' h h0 => by
    refine ⟨_, _, rfl, rfl, ?_⟩
    intro l' e _
    simp only [List.cons.injEq, and_true] at e
    rw [← str_inj e, h]
    show AV.tup [i64A x, i64A y] = AV.tup [i64A x, i64A ((y.toNat : Nat) : Int)]
    rw [Int.toNat_of_nonneg h0]
  unfold strS
  by_cases h1 : l = [116, 114, 117, 101]
  · have e1 : decide (l = [116, 114, 117, 101]) = true := decide_eq_true h1
    simp (maxSteps := 2000000) (disch := omega) only [W_skip, W_region, W_seq, W_cond, W_block, W_ret, seqQ_normal2, seqQ_ret2, blockW_normal2, blockW_ret2, WL_nil2, WL_cons, execL_val2, putL_some2, condW_t2, wantedA, exec1, evalO, initT, T.get_set, T.get_leaf, ofOpt, ofConst, finW_ret, giveW, resultsA, tupA, fb_eqS, neNil9, Nat.reduceLT, Nat.reduceEqDiff, if_true, if_false, true_and, Option.getD_some, Bool.false_eq_true, ez_P, neNil9, fb_eqS, Tryd.f46, e1]
    exact fin 1 0 _ (by unfold valF; rw [if_pos rfl, if_pos h1]; rfl) (by decide)
  · have e1 : decide (l = [116, 114, 117, 101]) = false := decide_eq_false h1
    by_cases h2 : l = [102, 97, 108, 115, 101]
    · have e2 : decide (l = [102, 97, 108, 115, 101]) = true := decide_eq_true h2
      simp (maxSteps := 2000000) (disch := omega) only [W_skip, W_region, W_seq, W_cond, W_block, W_ret, seqQ_normal2, seqQ_ret2, blockW_normal2, blockW_ret2, WL_nil2, WL_cons, execL_val2, putL_some2, condW_t2, condW_f2, wantedA, exec1, evalO, initT, T.get_set, T.get_leaf, ofOpt, ofConst, finW_ret, giveW, resultsA, tupA, fb_eqS, neNil9, Nat.reduceLT, Nat.reduceEqDiff, if_true, if_false, true_and, Option.getD_some, Bool.false_eq_true, ez_P, neNil9, fb_eqS, Tryd.f46, e1, e2]
      exact fin 0 0 _ (by unfold valF; rw [if_pos rfl, if_neg h1, if_pos h2]; rfl) (by decide)
    · have e2 : decide (l = [102, 97, 108, 115, 101]) = false := decide_eq_false h2
      simp (maxSteps := 2000000) (disch := omega) only [W_skip, W_region, W_seq, W_cond, W_block, W_ret, seqQ_normal2, seqQ_ret2, blockW_normal2, blockW_ret2, WL_nil2, WL_cons, execL_val2, putL_some2, condW_f2, wantedA, exec1, evalO, initT, T.get_set, T.get_leaf, ofOpt, ofConst, finW_ret, giveW, resultsA, tupA, fb_eqS, neNil9, Nat.reduceLT, Nat.reduceEqDiff, if_true, if_false, true_and, Option.getD_some, Bool.false_eq_true, ez_P, neNil9, fb_eqS, Tryd.f46, e1, e2]
      exact fin 0 1 _ (by unfold valF; rw [if_pos rfl, if_neg h1, if_neg h2]; rfl) (by decide)
theorem truth_u {l : List UInt8} {S : St} {Q : R → Prop} (hl : l.length ≤ 100000) (h : Q (.ret (.tup [i64A (valF l true).1, i64A (valF l true).2]) S)) : WC EZ 46 [strS l] S Q :=
  callZ (truth_k l hl) (by kernel_rfl) rfl rfl fun a _ _ hs => by
    have := hs l rfl hl
    subst this
    exact h
theorem fmtb_w {bb : Bool} {S : St} {Q : R → Prop} (h : Q (.ret (strS (if bb then [116, 114, 117, 101] else [102, 97, 108, 115, 101])) S)) : WC EZ 49 [.v (.bool bb)] S Q := by
  refine WC_fn Tryd.f49 sp_49 (by kernel_rfl) (by kernel_rfl) (show (_ : Nat) ≤ _ from by show (_ : Nat) ≤ _; simp [Tryd.f49]) ?_
  cases bb
  · simp (maxSteps := 2000000) (disch := omega) only [W_skip, W_region, W_seq, W_cond, W_ret, seqQ_normal2, seqQ_ret2, WL_nil2, WL_cons, execL_val2, putL_some2, condW_f2, wantedA, exec1, evalO, initT, T.get_set, T.get_leaf, ofOpt, ofConst, finW_ret, giveW, resultsA, tupA, Nat.reduceLT, Nat.reduceEqDiff, if_true, if_false, true_and, Option.getD_some, Tryd.f49]
    exact h
  · simp (maxSteps := 2000000) (disch := omega) only [W_skip, W_region, W_seq, W_cond, W_ret, seqQ_normal2, seqQ_ret2, WL_nil2, WL_cons, execL_val2, putL_some2, condW_t2, wantedA, exec1, evalO, initT, T.get_set, T.get_leaf, ofOpt, ofConst, finW_ret, giveW, resultsA, tupA, Nat.reduceLT, Nat.reduceEqDiff, if_true, if_false, true_and, Option.getD_some, Tryd.f49]
    exact h
theorem fb_k (bb : Bool) : KnZ 35 [.v (.bool bb)] := by
  refine bodyZ Tryd.f35 (by kernel_rfl) (by kernel_rfl) (show (_ : Nat) ≤ _ from by show (_ : Nat) ≤ _; simp [Tryd.f35]) ?_
  obtain ⟨fn1, hf1⟩ := fnz_49
  simp (maxSteps := 2000000) (disch := omega) only [W_region, W_seq, seqQ_normal2, WL_nil2, WL_cons, execL_val2, execL_enter2, putL_some2, wantedA, exec1, evalO, initT, T.get_set, T.get_leaf, callA, mapO, ofOpt, ofConst, Nat.reduceLT, Nat.reduceEqDiff, if_true, if_false, true_and, Option.getD_some, List.nil_append, List.append_nil, Tryd.f35, hf1]
  refine fmtb_w ?_
  unfold strS
  simp (maxSteps := 2000000) (disch := omega) only [W_ret, seqQ_normal2, WL_nil2, WL_cons, execL_val2, putL_some2, retL_ret2, wantedA, exec1, evalO, T.get_set, T.get_leaf, ofOpt, finW_ret, giveW, resultsA, tupA, Nat.reduceLT, Nat.reduceEqDiff, if_true, if_false, true_and]
  refine ⟨_, _, rfl, rfl, ?_⟩
  intro b' e
  simp only [List.cons.injEq, and_true, AV.v.injEq, Value.bool.injEq] at e
  rw [← e]
  rfl
theorem fb_u {bb : Bool} {S : St} {Q : R → Prop} (h : Q (.ret (strS (if bb then [116, 114, 117, 101] else [102, 97, 108, 115, 101])) S)) : WC EZ 35 [.v (.bool bb)] S Q :=
  callZ (fb_k bb) (by kernel_rfl) rfl rfl fun a _ _ hs => by
    have := hs bb rfl
    subst this
    exact h
end Go.Ax
noncomputable section
namespace Go.Ax
open Go.RowKit Go.Proofs
set_option linter.unusedVariables false
set_option linter.unusedSimpArgs false
set_option maxRecDepth 100000
theorem yuU : Tryd.prog.underlying 70 = some (.slice 5) := by kernel_rfl
theorem yeU : elemT Tryd.prog 70 = some (none, 5) := by kernel_rfl
theorem yzeU : sizeT Tryd.prog 5 = some 1 := by kernel_rfl
theorem yiU : (Tryd.prog.info? 5).map (fun i => (i.zero.map fun z => z.cells.size, i.size, decide (i.bytes ≤ 1000))) = some (some 1, 1, true) := by kernel_rfl
theorem ytU : ∃ bytes, RowT Tryd.prog 70 5 1 bytes := rowT_of yeU yuU yiU (by decide)
theorem yrU_0 : oBuildSlice Tryd.prog 70 0 [] = some (.sl 1 0 1 []) := by kernel_rfl
theorem ynU (S : St) (tok off : Nat) (es : List AV) : oLen Tryd.prog S 70 (.sl tok off 1 es) = some es.length := by simp [oLen, yuU]
theorem ynnU (S : St) : oLen Tryd.prog S 70 .nils = some 0 := by simp [oLen, yuU]
theorem yxU (tok off : Nat) (es : List AV) (i : Nat) (h : i < es.length) : oIndexAddr Tryd.prog 70 (.sl tok off 1 es) (.v (.int .i64 (i : Int))) = some (.ep es[i].cells) := by
  have h0 : (0 : Int) ≤ (i : Int) := by omega
  simp [oIndexAddr, h0, yeU, yzeU, h]
theorem fnz_55 : ∃ fn, EZ.F 55 = some fn := Option.isSome_iff_exists.1 (by kernel_rfl)
theorem fnz_46 : ∃ fn, EZ.F 46 = some fn := Option.isSome_iff_exists.1 (by kernel_rfl)
theorem fnz_47 : ∃ fn, EZ.F 47 = some fn := Option.isSome_iff_exists.1 (by kernel_rfl)
theorem fnz_35 : ∃ fn, EZ.F 35 = some fn := Option.isSome_iff_exists.1 (by kernel_rfl)
theorem fnz_36 : ∃ fn, EZ.F 36 = some fn := Option.isSome_iff_exists.1 (by kernel_rfl)
theorem fnz_56 : ∃ fn, EZ.F 56 = some fn := Option.isSome_iff_exists.1 (by kernel_rfl)
theorem yg5 : isAggT Tryd.prog 5 = some false := by kernel_rfl
theorem yle5 (S : St) (c : AV) (cs : List AV) : oLoad Tryd.prog S 5 (.ep (c :: cs)) = some c := vldSE yg5 S c cs
theorem cv_bytes (l : List UInt8) : oConvert Tryd.prog 9 70 (.v (.string ⟨⟨l⟩⟩)) = some (.sl 0 0 1 (l.map byteV)) := by
  have h1 : Tryd.prog.underlying 70 = some (.slice 5) := yuU
  have h2 : Tryd.prog.underlying 5 = some (.int .u8) := by kernel_rfl
  unfold oConvert
  rw [u9, h1]
  simp only [h2]
  rfl
theorem tens_is (l : List UInt8) : decide ((numF l).2 ≠ 1) = (decide (l = [48]) || (decide ((if l.head? = some 45 then l.drop 1 else l) ≠ []) && decide ((if l.head? = some 45 then l.drop 1 else l).head? ≠ some 48) && (if l.head? = some 45 then l.drop 1 else l).all digB)) := by
  by_cases h48 : l = [48]
  · subst h48; rfl
  · have e48 : decide (l = [48]) = false := decide_eq_false h48
    rw [e48, Bool.false_or]
    unfold numF
    simp only
    generalize (if l.head? = some 45 then l.drop 1 else l) = t
    by_cases h1 : t = []
    · rw [if_pos (.inl h1)]
      simp [h1]
    · by_cases h2 : t.head? = some 48
      · rw [if_pos (.inr ⟨h2, h48⟩)]
        simp [h1, h2]
      · rw [if_neg (by rintro (h | h); exact h1 h; exact h2 h.1)]
        cases hd : t.all digB with
        | false => rw [if_pos rfl]; simp
        | true =>
          rw [if_neg (by decide)]
          have : decide (t ≠ []) = true := decide_eq_true h1
          rw [this, decide_eq_true h2]
          by_cases h3 : l.head? = some 45
          · rw [if_pos h3]; split <;> rfl
          · rw [if_neg h3]; split <;> rfl
def btLB : Code := match Tryd.f55.body with
  | some (.seq _ (.seq _ (.seq _ (.seq _ (.seq (.seq _ (.block _ (.loop c))) _))))) => c
  | _ => .skip
theorem btLB_is : (match btLB with | .skip => false | _ => true) = true := by kernel_rfl
theorem bt_lp {ds : List UInt8} (hl : ds.length ≤ 100000) : ∀ (n i : Nat) (t : T AV) (S : St), i + n = ds.length → (ds.take i).all digB = true → t.get 18 = some (.sl 0 0 1 (ds.map byteV)) → t.get 19 = some (.v (.int .i64 ((ds.length : Nat) : Int))) → t.get 20 = some (.v (.int .i64 ((i : Nat) : Int))) →
    WX EZ 31 (.loop btLB) ⟨t, []⟩ S (fun r => (∃ t', r = .out .ret ⟨t', []⟩ S ∧ t'.get 2 = some (.v (.bool false)) ∧ ds.all digB = false) ∨ (∃ t', r = .out (.exit 0) ⟨t', []⟩ S ∧ ds.all digB = true))
  | 0, i, t, S, hi, hd, T18, T19, T20 => by
    refine WX_loop (W_sound ?_)
    have hlt : decide ((i : Int) < (ds.length : Int)) = false := by rw [decide_eq_false_iff_not]; omega
    rw [List.take_of_length_le (by omega)] at hd
    simp (maxSteps := 2000000) (disch := omega) only [thenW_exit, W_skip, W_region, W_seq, W_cond, W_block, W_exit, seqQ_normal2, seqQ_exit2, WL_nil2, WL_cons, execL_val2, putL_some2, condW_f2, wantedA, exec1, evalO, T.get_set, ofOpt, neNil3, fb_lss, Nat.reduceLT, Nat.reduceEqDiff, if_true, if_false, true_and, Bool.false_eq_true, ez_P, btLB, Tryd.f55, T18, T19, T20, hlt]
    exact .inr ⟨_, rfl, hd⟩
  | n + 1, i, t, S, hi, hd, T18, T19, T20 => by
    refine WX_loop (W_sound ?_)
    have hil : i < ds.length := by omega
    have hlt : decide ((i : Int) < (ds.length : Int)) = true := by rw [decide_eq_true_eq]; omega
    have hx := yxU 0 0 (ds.map byteV) i (by rw [List.length_map]; exact hil)
    rw [List.getElem_map] at hx
    have hw := wrapS i (by omega)
    have htk : ds.take (i + 1) = ds.take i ++ [ds[i]] := List.take_succ_eq_append_getElem hil
    have hmem : ds[i] ∈ ds := List.getElem_mem hil
    have hc1 : (byteV ds[i]).cells = [byteV ds[i]] := rfl
    rw [hc1] at hx
    rw [show byteV ds[i] = .v (.int .u8 (ds[i].toNat : Int)) from rfl] at hx
    generalize ds[i] = d at hx htk hmem
    have hnd : digB d = false → ds.all digB = false := fun h => by
      rw [Bool.eq_false_iff, Ne, List.all_eq_true]
      intro hall
      have := hall d hmem
      rw [h] at this; cases this
    by_cases h1 : d.toNat < 48
    · have e1 : decide (((d.toNat : Nat) : Int) < 48) = true := by rw [decide_eq_true_eq]; omega
      simp (maxSteps := 2000000) (disch := omega) only [thenW_normal, thenW_exit, thenW_ret, W_skip, W_region, W_seq, W_cond, W_block, W_exit, W_ret, seqQ_normal2, seqQ_exit2, seqQ_ret2, blockW_normal2, blockW_ret2, WL_nil2, WL_cons, execL_no, execL_val2, putL_some2, condW_t2, wantedA, exec1, evalO, T.get_set, ofOpt, ofConst, neNil3, fb_lss, fb_add, Nat.reduceLT, Nat.reduceEqDiff, if_true, if_false, true_and, List.getElem?_toArray, List.getElem?_cons_succ, List.getElem?_cons_zero, Option.bind_some, Bool.false_eq_true, Bool.true_beq, ez_P, ez_G, neNil5, e1, btLB, Tryd.f55, T18, T19, T20, hlt, hx, hw, yle5]
      refine .inl ⟨_, rfl, ?_, hnd (by unfold digB; simp; omega)⟩
      simp only [T.get_set, Nat.reduceEqDiff, if_true, if_false]
    · have e1 : decide (((d.toNat : Nat) : Int) < 48) = false := by rw [decide_eq_false_iff_not]; omega
      by_cases h2 : 57 < d.toNat
      · have e2 : decide (((d.toNat : Nat) : Int) > 57) = true := by rw [decide_eq_true_eq]; omega
        simp (maxSteps := 2000000) (disch := omega) only [thenW_normal, thenW_exit, thenW_ret, W_skip, W_region, W_seq, W_cond, W_block, W_exit, W_ret, seqQ_normal2, seqQ_exit2, seqQ_ret2, blockW_normal2, blockW_ret2, WL_nil2, WL_cons, execL_val2, putL_some2, condW_t2, wantedA, exec1, evalO, T.get_set, ofOpt, ofConst, neNil3, fb_lss, fb_gtr, fb_add, Nat.reduceLT, Nat.reduceEqDiff, if_true, if_false, true_and, List.getElem?_toArray, List.getElem?_cons_succ, List.getElem?_cons_zero, Option.bind_some, beq_self_eq_true, Bool.false_eq_true, ez_P, neNil5, e1, e2, btLB, Tryd.f55, T18, T19, T20, hlt, hx, hw, yle5]
        refine .inl ⟨_, rfl, ?_, hnd (by unfold digB; simp; omega)⟩
        simp only [T.get_set, Nat.reduceEqDiff, if_true, if_false]
      · have e2 : decide (((d.toNat : Nat) : Int) > 57) = false := by rw [decide_eq_false_iff_not]; omega
        simp (maxSteps := 2000000) (disch := omega) only [thenW_normal, thenW_exit, thenW_ret, W_skip, W_region, W_seq, W_cond, W_block, W_exit, W_ret, seqQ_normal2, seqQ_exit2, seqQ_ret2, blockW_normal2, blockW_ret2, WL_nil2, WL_cons, execL_val2, putL_some2, condW_t2, condW_f2, wantedA, exec1, evalO, T.get_set, ofOpt, ofConst, neNil3, fb_lss, fb_gtr, fb_add, Nat.reduceLT, Nat.reduceEqDiff, if_true, if_false, true_and, List.getElem?_toArray, List.getElem?_cons_succ, List.getElem?_cons_zero, Option.bind_some, beq_self_eq_true, Bool.false_eq_true, ez_P, neNil5, e1, e2, btLB, Tryd.f55, T18, T19, T20, hlt, hx, hw, yle5]
        refine WX.mono (bt_lp hl n (i + 1) _ _ (by omega) ?_ ?_ ?_ ?_) (fun r h => h)
        · rw [htk, List.all_append, hd]
          simp only [List.all_cons, List.all_nil, Bool.and_true, Bool.true_and]
          unfold digB; simp; omega
        · simp only [T.get_set, Nat.reduceEqDiff, if_false, T18]
        · simp only [T.get_set, Nat.reduceEqDiff, if_false, T19]
        · simp only [T.get_set, Nat.reduceEqDiff, if_true, if_false]
theorem tens_k (l : List UInt8) (hl : l.length ≤ 100000) : KnZ 55 [strS l] := by
  refine bodyZ Tryd.f55 (by kernel_rfl) (by kernel_rfl) (show (_ : Nat) ≤ _ from by show (_ : Nat) ≤ _; simp [Tryd.f55]) ?_
  obtain ⟨fn1, hf1⟩ := fnz_65
  have fin : ∀ (x : Bool) (S' : St), decide ((numF l).2 ≠ 1) = x → ∃ a S'', R.ret (.v (.bool x)) S' = R.ret a S'' ∧ freeV a = true ∧ SpecZ 55 [strS l] (clean a) := fun x S' h => by
    refine ⟨_, _, rfl, rfl, ?_⟩
    intro l' e _
    simp only [List.cons.injEq, and_true] at e
    rw [← str_inj e, h]
    rfl
  have hti := tens_is l
  have key := fun (ds : List UInt8) (hd : ds.length ≤ 100000) t S => bt_lp hd ds.length 0 t S (by omega) rfl
  unfold btLB at key
  simp only [Tryd.f55] at key
  by_cases h48 : l = [48]
  · have e1 : decide (l = [48]) = true := decide_eq_true h48
    unfold strS
    simp (maxSteps := 2000000) (disch := omega) only [W_skip, W_region, W_seq, W_cond, W_ret, seqQ_normal2, seqQ_ret2, WL_nil2, WL_cons, execL_val2, putL_some2, condW_t2, wantedA, exec1, evalO, initT, T.get_set, T.get_leaf, callA, mapO, ofOpt, ofConst, finW_ret, giveW, resultsA, tupA, fb_eqS, neNil9, Nat.reduceLT, Nat.reduceEqDiff, if_true, if_false, true_and, Option.getD_some, List.nil_append, List.append_nil, Bool.false_eq_true, ez_P, ez_F, neNil9, fb_eqS, Tryd.f55, e1]
    exact fin true _ (by rw [hti, e1]; rfl)
  · have e1 : decide (l = [48]) = false := decide_eq_false h48
    rw [e1, Bool.false_or] at hti
    have htl : (if l.head? = some 45 then l.drop 1 else l).length ≤ 100000 := by
      split
      · rw [List.length_drop]; omega
      · exact hl
    unfold strS
    simp (maxSteps := 2000000) (disch := omega) only [W_skip, W_region, W_seq, W_cond, W_ret, seqQ_normal2, seqQ_ret2, WL_nil2, WL_cons, execL_val2, execL_enter2, putL_some2, condW_f2, wantedA, exec1, evalO, initT, T.get_set, T.get_leaf, callA, mapO, ofOpt, ofConst, finW_ret, giveW, resultsA, tupA, fb_eqS, neNil9, Nat.reduceLT, Nat.reduceEqDiff, if_true, if_false, true_and, Option.getD_some, List.nil_append, List.append_nil, Bool.false_eq_true, ez_P, neNil9, fb_eqS, Tryd.f55, e1, hf1]
    refine trim_u hl ?_
    generalize (if l.head? = some 45 then l.drop 1 else l) = ds at hti htl
    unfold strS
    cases ds with
    | nil =>
      have e2 : decide (([] : List UInt8) = []) = true := rfl
      simp (maxSteps := 2000000) (disch := omega) only [W_skip, W_region, W_seq, W_cond, W_ret, seqQ_normal2, seqQ_ret2, WL_nil2, WL_cons, execL_no, execL_val2, putL_some2, retL_ret2, condW_t2, wantedA, exec1, evalO, T.get_set, T.get_leaf, ofOpt, ofConst, finW_ret, giveW, resultsA, tupA, fb_eqS, neNil9, Nat.reduceLT, Nat.reduceEqDiff, if_true, if_false, true_and, List.getElem?_toArray, List.getElem?_cons_succ, List.getElem?_cons_zero, Option.bind_some, Bool.false_eq_true, decide_true, Bool.true_beq, ez_P, ez_G, neNil5, neNil9, fb_eqS]
      exact fin false _ (by rw [hti]; rfl)
    | cons d r =>
      have e2 : decide (d :: r = ([] : List UInt8)) = false := rfl
      have hx : fastIndex Tryd.prog 9 (.v (.string ⟨⟨d :: r⟩⟩)) (.v (.int .i64 0)) = some (.v (.int .u8 (d.toNat : Int))) := idx9 (d :: r) 0 (by simp)
      by_cases hd : d = 48
      · have e3 : (((d.toNat : Nat) : Int) == 48) = true := by subst hd; rfl
        simp (maxSteps := 2000000) (disch := omega) only [W_skip, W_region, W_seq, W_cond, W_ret, seqQ_normal2, seqQ_ret2, WL_nil2, WL_cons, execL_val2, putL_some2, retL_ret2, condW_t2, wantedA, exec1, evalO, T.get_set, T.get_leaf, ofOpt, ofConst, finW_ret, giveW, resultsA, tupA, fb_eqlI, fb_eqS, neNil9, Nat.reduceLT, Nat.reduceEqDiff, if_true, if_false, true_and, List.getElem?_toArray, List.getElem?_cons_succ, List.getElem?_cons_zero, Option.bind_some, beq_self_eq_true, Bool.false_eq_true, ez_P, ez_G, neNil5, neNil9, fb_eqS, e2, hx, e3]
        exact fin false _ (by rw [hti, hd]; simp)
      · have e3 : (((d.toNat : Nat) : Int) == 48) = false := by
          rw [beq_eq_false_iff_ne]
          intro h
          exact hd (UInt8.toNat_inj.1 (by have : ((48 : UInt8).toNat : Int) = 48 := rfl; omega))
        have hcv := cv_bytes (d :: r)
        have hds := key (d :: r) htl
        generalize hgen : d :: r = ds at *
        have hne : decide (ds ≠ []) = true := by rw [← hgen]; rfl
        have hh : decide (ds.head? ≠ some 48) = true := by rw [← hgen]; simp [hd]
        rw [hne, hh, Bool.true_and, Bool.true_and] at hti
        simp (maxSteps := 2000000) (disch := omega) only [W_skip, W_region, W_seq, W_cond, W_block, W_loop, W_ret, seqQ_normal2, seqQ_ret2, WL_nil2, WL_cons, execL_val2, putL_some2, retL_ret2, condW_f2, wantedA, exec1, evalO, T.get_set, T.get_leaf, callA, ofOpt, ofConst, finW_ret, giveW, resultsA, tupA, fb_eqlI, fb_eqS, neNil9, Nat.reduceLT, Nat.reduceEqDiff, if_true, if_false, true_and, List.getElem?_toArray, List.getElem?_cons_succ, List.getElem?_cons_zero, Option.bind_some, beq_self_eq_true, Bool.false_eq_true, ez_P, neNil5, neNil9, fb_eqS, e2, hx, e3, hcv, ynU, List.length_map]
        refine WX.mono (hds _ _ ?_ ?_ ?_) ?_
        · simp only [T.get_set, Nat.reduceEqDiff, if_true, if_false]
        · simp only [T.get_set, Nat.reduceEqDiff, if_true, if_false]
        · simp only [T.get_set, Nat.reduceEqDiff, if_true, if_false]; rfl
        · rintro x (⟨t', rfl, T2, hb⟩ | ⟨t', rfl, hb⟩)
          · simp (maxSteps := 2000000) (disch := omega) only [seqQ_ret2, blockW_ret2, finW_ret, giveW, resultsA, tupA, T2]
            exact fin false _ (hti.trans hb)
          · simp (maxSteps := 2000000) (disch := omega) only [W_region, W_seq, W_ret, seqQ_normal2, seqQ_exit2, blockW_exit2, WL_nil2, WL_cons, execL_val2, putL_some2, wantedA, exec1, evalO, T.get_set, ofOpt, ofConst, finW_ret, giveW, resultsA, tupA, Nat.reduceLT, if_true, true_and]
            exact fin true _ (hti.trans hb)
theorem tens_u {l : List UInt8} {S : St} {Q : R → Prop} (hl : l.length ≤ 100000) (h : Q (.ret (.v (.bool (decide ((numF l).2 ≠ 1)))) S)) : WC EZ 55 [strS l] S Q :=
  callZ (tens_k l hl) (by kernel_rfl) rfl rfl fun a _ _ hs => by
    have := hs l rfl hl
    subst this
    exact h
theorem pint_u {l : List UInt8} {S : St} {Q : R → Prop} (hl : l.length ≤ 100000) (h0 : (numF l).2 = 0 → Q (.ret (.tup [i64A (numF l).1, .v .nilIface]) S)) (h3 : (numF l).2 = 3 → Q (.ret (.tup [i64A (Lib.intSat 64 l), .iface 132 (.ep [])]) S)) (h1 : (numF l).2 ≠ 1) : WC EZ 56 [strS l, i64A 10, i64A 64] S Q := by
  refine WC_known ez_pint ?_
  have hs : (⟨⟨l⟩⟩ : ByteArray).size ≤ 100000 := hl
  show Q (pintB [.v (.string ⟨⟨l⟩⟩), .v (.int .i64 10), .v (.int .i64 64)] S)
  unfold pintB
  simp only
  rw [if_pos hs]
  by_cases e0 : (numF l).2 = 0
  · have e0' : (numF (⟨⟨l⟩⟩ : ByteArray).data.toList).2 = 0 := e0
    rw [if_pos e0']; exact h0 e0
  · have e0' : ¬ (numF (⟨⟨l⟩⟩ : ByteArray).data.toList).2 = 0 := e0
    have e3 : (numF l).2 = 3 := by rcases numF_cases l with h | h | h <;> omega
    have e3' : (numF (⟨⟨l⟩⟩ : ByteArray).data.toList).2 = 3 := e3
    rw [if_neg e0', if_pos e3']; exact h3 e3
end Go.Ax
