/-
  Regions whose order is drawn, where nothing need be looked at again: a row of operations.
-/
import Derived.Test.YtjgknelmjdallaaGreatDoorFcS
noncomputable section
namespace Go.Ax
open Go.RowKit
set_option linter.unusedVariables false
set_option linter.unusedSimpArgs false

/-- Regions whose order is drawn, where nothing need be looked at again. -/
def isDfr (o : Oper) : Bool := match o.op with
  | .defer _ => true
  | _ => false
def fixX (fb : Fr) (r : O) : O := O.rec (motive := fun _ => O) (fun e f S => Ex.rec (motive := fun _ => O) (.out .normal f S) (fun i => .out (.exit i) f S) (.out .ret f S) (fun a => .out (.pan a) fb S) e) .fail r
theorem exec1_dfr {E : Env} {f : T AV} {S S' : St} {o : Oper} {fn : Fn} {caps args : List AV} (h : exec1 E f S o = .dfr fn caps args S') : isDfr o = true := by
  have key : ∀ (x : OR), x = .dfr fn caps args S' → (∃ a, x = ofOpt S a) ∨ x = .fail ∨ (∃ a, x = ofOptS a) ∨ x = ground E.P E.G f S o ∨ (∃ a S, x = .val a S) ∨ (∃ S, x = .skip S) ∨ (∃ k l S, x = .enter k l S) ∨ (∃ a S, x = .pan a S) → False := by
    rintro x hx (⟨a, rfl⟩ | rfl | ⟨a, rfl⟩ | rfl | ⟨a, S2, rfl⟩ | ⟨S2, rfl⟩ | ⟨k, l, S2, rfl⟩ | ⟨a, S2, rfl⟩)
    · cases a <;> cases hx
    · cases hx
    · cases a with
      | none => cases hx
      | some q => cases q; cases hx
    · rcases ground_ne (P := E.P) (G := E.G) (f := f) (S := S) (o := o) with ⟨a, ha⟩ | ha <;> rw [ha] at hx <;> cases hx
    · cases hx
    · cases hx
    · cases hx
    · cases hx
  unfold isDfr
  split
  · rfl
  · rename_i hne
    exfalso
    refine key _ h ?_
    unfold exec1
    split
    all_goals first
      | (rename_i c ho; exact absurd ho (hne c))
      | skip
    all_goals try unfold callA
    all_goals repeat' split
    all_goals try unfold eqOr
    all_goals repeat' split
    all_goals first
      | exact .inl ⟨_, rfl⟩
      | exact .inr (.inl rfl)
      | exact .inr (.inr (.inl ⟨_, rfl⟩))
      | exact .inr (.inr (.inr (.inl rfl)))
      | exact .inr (.inr (.inr (.inr (.inl ⟨_, _, rfl⟩))))
      | exact .inr (.inr (.inr (.inr (.inr (.inl ⟨_, rfl⟩)))))
      | exact .inr (.inr (.inr (.inr (.inr (.inr (.inl ⟨_, _, _, rfl⟩))))))
      | exact .inr (.inr (.inr (.inr (.inr (.inr (.inr ⟨_, _, rfl⟩))))))
/-- Steps of a region: an operation, or that what was seen is still so. -/
inductive RS where
  | op (o : Oper)
  | re (o : Oper)
def okAp (ops : Array Oper) (o : Oper) (p : Oper) : Bool := match o.dst with
  | none => true
  | some d => !(p.looksAt ops).contains d && !(p.dst == some d)
def selfAp (ops : Array Oper) (o : Oper) : Bool := match o.dst with
  | none => false
  | some d => !(o.looksAt ops).contains d
def keepsD (ops : Array Oper) (o : Oper) (lk : List (Nat × Oper)) : Bool := lk.all fun p => pureO p.2 || okAp ops o p.2
def againD (m : Nat) (lk : List (Nat × Oper)) : List (Nat × Oper) := lk.filter fun p => !m.testBit p.1 && !pureO p.2
def stepsD (ops : Array Oper) (ms : List Nat) : List Nat → List (Nat × Oper) → Option (List RS)
  | [], _ => some []
  | i :: r, lk => match ops[i]? with
    | none => none
    | some o => if keepsD ops o lk then
        if isLook o then (if pureO o || selfAp ops o then (match stepsD ops ms r ((i, o) :: lk) with
          | some l => some (.op o :: l)
          | none => none) else none)
        else if isDfr o then none else (match stepsD ops ms r lk with
          | some l => some (.op o :: ((againD (ms.getD i 0) lk).map fun p => RS.re p.2) ++ l)
          | none => none)
      else none
/-- What was seen is still so. -/
def againO (E : Env) (ops : Array Oper) (o : Oper) (f : T AV) (S : St) : Bool := match lookV E ops o f S, o.dst with
  | some a, some d => match f.get d with
    | some b => beqA b a
    | none => false
  | _, _ => false
def runRS (E : Env) (ck : CallK) (n : Nat) (ops : Array Oper) : List RS → Fr → St → O
  | [], f, S => .out .normal f S
  | .op o :: r, f, S => match stepO E ck n ops o f S with
    | .out .normal f' S' => runRS E ck n ops r f' S'
    | r => r
  | .re o :: r, f, S => if againO E ops o f.tmps S then runRS E ck n ops r f S else .fail
theorem runRS_re {E : Env} {ck : CallK} {n : Nat} {ops : Array Oper} (r : List RS) (f : Fr) (S : St) : ∀ (l : List (Nat × Oper)), runRS E ck n ops ((l.map fun p => RS.re p.2) ++ r) f S = .fail ∨ ((∀ p ∈ l, againO E ops p.2 f.tmps S = true) ∧ runRS E ck n ops ((l.map fun p => RS.re p.2) ++ r) f S = runRS E ck n ops r f S)
  | [] => .inr ⟨fun _ h => absurd h List.not_mem_nil, rfl⟩
  | p :: l => by
    have e : ∀ l f S, runRS E ck n ops (.re p.2 :: l) f S = if againO E ops p.2 f.tmps S then runRS E ck n ops l f S else .fail := fun _ _ _ => rfl
    rw [List.map_cons, List.cons_append, e]
    cases h : againO E ops p.2 f.tmps S with
    | false => exact .inl rfl
    | true =>
      rw [if_pos rfl]
      rcases runRS_re r f S l with h1 | ⟨h1, h2⟩
      · exact .inl h1
      · refine .inr ⟨fun q hq => ?_, h2⟩
        rcases List.mem_cons.1 hq with rfl | hq
        · exact h
        · exact h1 q hq
def Seen (ops : Array Oper) (f : T AV) (l : Look) : Prop := pureO l.o = true ∨ (agree ops l.o l.f f ∧ ∃ d, l.o.dst = some d ∧ f.get d = some l.a)
theorem Seen.put {ops : Array Oper} {f : Fr} {l : Look} (h : Seen ops f.tmps l) {o : Oper} (ho : pureO l.o = true ∨ okAp ops o l.o = true) (a : AV) : Seen ops (putT f o.dst a).tmps l := by
  rcases h with h | ⟨h1, d, h2, h3⟩
  · exact .inl h
  · rcases ho with ho | ho
    · exact .inl ho
    · refine .inr ?_
      unfold okAp at ho
      cases hd : o.dst with
      | none => exact ⟨h1, d, h2, h3⟩
      | some x =>
        rw [hd] at ho
        simp only [Bool.and_eq_true, Bool.not_eq_true'] at ho
        obtain ⟨k1, k2⟩ := ho
        refine ⟨fun t ht => ?_, d, h2, ?_⟩
        · show l.f.get t = (f.tmps.set x (some a)).get t
          rw [T.get_set, if_neg (fun e => by subst e; rw [List.contains_eq_mem, decide_eq_false_iff_not] at k1; exact k1 ht)]
          exact h1 t ht
        · show (f.tmps.set x (some a)).get d = some l.a
          rw [T.get_set, if_neg (fun e => by subst e; rw [h2] at k2; simp at k2)]
          exact h3
theorem drun_steps {E : Env} {ck : CallK} {n : Nat} {ops : Array Oper} {ms : List Nat} {fb : Fr} : ∀ (l : List Nat) (rs : List RS) (f : Fr) (S : St) (L : List Look), stepsD ops ms l (L.map fun l => (l.idx, l.o)) = some rs → (∀ l ∈ L, Seen ops f.tmps l) → runRS E ck n ops rs f S = .fail ∨ drun E ck n ops ms fb l f S L = fixX fb (runRS E ck n ops rs f S)
  | [], rs, f, S, L, h, hL => by
    injection h with h; subst h
    refine .inr ?_
    unfold drun; rfl
  | i :: r, rs, f, S, L, h, hL => by
    unfold stepsD at h
    split at h
    · cases h
    · rename_i o ho
      split at h
      case isFalse => cases h
      rename_i hk
      have hkeep : ∀ l ∈ L, pureO l.o = true ∨ okAp ops o l.o = true := fun l hl => by
        have := List.all_eq_true.1 hk (l.idx, l.o) (List.mem_map.2 ⟨l, hl, rfl⟩)
        simpa using this
      split at h
      · rename_i hl
        split at h
        case isFalse => cases h
        rename_i hself
        split at h
        case h_2 => cases h
        rename_i l2 hl2
        injection h with h; subst h
        unfold drun runRS
        rw [ho]
        simp only
        rw [if_pos hl, stepO_eq, stepR_look hl]
        cases hv : lookV E ops o f.tmps S with
        | none => exact .inl rfl
        | some a =>
          simp only
          rw [putA_eq]
          cases hd : okD n o.dst with
          | false => exact .inl rfl
          | true =>
            refine drun_steps r l2 (putT f o.dst a) S (⟨i, o, f.tmps, a⟩ :: L) hl2 fun l hl => ?_
            rcases List.mem_cons.1 hl with rfl | hl
            · rw [Bool.or_eq_true] at hself
              rcases hself with hself | hself
              · exact .inl hself
              · refine .inr ?_
                unfold selfAp at hself
                cases hd2 : o.dst with
                | none => rw [hd2] at hself; cases hself
                | some d =>
                  rw [hd2] at hself
                  refine ⟨fun t ht => ?_, d, rfl, ?_⟩
                  · show f.tmps.get t = (f.tmps.set d (some a)).get t
                    rw [T.get_set, if_neg (fun e => by subst e; rw [Bool.not_eq_true', List.contains_eq_mem, decide_eq_false_iff_not] at hself; exact hself ht)]
                  · show (f.tmps.set d (some a)).get d = some a
                    rw [T.get_set, if_pos rfl]
            · exact (hL l hl).put (hkeep l hl) a
      · rename_i hl
        split at h
        · cases h
        rename_i hdf
        split at h
        case h_2 => cases h
        rename_i l2 hl2
        injection h with h; subst h
        have e1 : ∀ f S, runRS E ck n ops (.op o :: ((againD (ms.getD i 0) (L.map fun l => (l.idx, l.o))).map fun p => RS.re p.2) ++ l2) f S = match stepO E ck n ops o f S with
          | .out .normal f' S' => runRS E ck n ops (((againD (ms.getD i 0) (L.map fun l => (l.idx, l.o))).map fun p => RS.re p.2) ++ l2) f' S'
          | r => r := fun _ _ => rfl
        rw [e1]
        unfold drun
        rw [ho]
        simp only
        rw [if_neg hl, stepO_eq]
        cases hs : stepR E ck ops o f.tmps S with
        | val a S' =>
          simp only
          rw [putA_eq]
          cases hd : okD n o.dst with
          | false => exact .inl rfl
          | true =>
            rw [if_pos rfl]
            simp only
            have hseen : ∀ l ∈ L, Seen ops (putT f o.dst a).tmps l := fun l hl => (hL l hl).put (hkeep l hl) a
            rcases runRS_re (E := E) (ck := ck) (n := n) (ops := ops) l2 (putT f o.dst a) S' (againD (ms.getD i 0) (L.map fun l => (l.idx, l.o))) with h1 | ⟨h1, h2⟩
            · exact .inl h1
            · rw [h2]
              have hall : L.all (recheck E ops (ms.getD i 0) S') = true := by
                rw [List.all_eq_true]
                intro l hl
                unfold recheck
                cases hb : (ms.getD i 0).testBit l.idx with
                | true => rfl
                | false =>
                  cases hp : pureO l.o with
                  | true => rfl
                  | false =>
                    have hag := h1 (l.idx, l.o) (by unfold againD; rw [List.mem_filter]; exact ⟨List.mem_map.2 ⟨l, hl, rfl⟩, by simp only [hb, hp]; rfl⟩)
                    rcases hseen l hl with h3 | ⟨h3, d, h4, h5⟩
                    · rw [hp] at h3; cases h3
                    · unfold againO at hag
                      rw [lookV_congr (S := S') h3]
                      simp only at hag
                      split at hag
                      · rename_i a2 d2 hv hd2
                        rw [h4] at hd2; injection hd2 with hd2; subst hd2
                        rw [h5] at hag
                        rw [hv]
                        exact hag
                      · cases hag
              rw [hall, Bool.true_and, if_pos rfl]
              exact drun_steps r l2 (putT f o.dst a) S' L hl2 hseen
        | dfr d S' =>
          exfalso
          unfold stepR at hs
          split at hs
          · cases hs
          · cases hs
          · split at hs
            · cases hs
            · cases hs
            · split at hs <;> cases hs
            · rename_i he
              exact hdf (exec1_dfr he)
            · cases hs
            · cases hs
        | pan a S' => exact .inr rfl
        | fail => exact .inl rfl
theorem runRS_append {E : Env} {ck : CallK} {n : Nat} {ops : Array Oper} : ∀ (l m : List RS) (f : Fr) (S : St), runRS E ck n ops (l ++ m) f S = match runRS E ck n ops l f S with
    | .out .normal f' S' => runRS E ck n ops m f' S'
    | r => r
  | [], m, f, S => rfl
  | .op o :: r, m, f, S => by
    have e : ∀ l, runRS E ck n ops (.op o :: l) f S = match stepO E ck n ops o f S with
      | .out .normal f' S' => runRS E ck n ops l f' S'
      | r => r := fun _ => rfl
    rw [List.cons_append, e, e]
    cases stepO E ck n ops o f S with
    | fail => rfl
    | out e f' S' => cases e <;> first | exact runRS_append r m f' S' | rfl
  | .re o :: r, m, f, S => by
    have e : ∀ l, runRS E ck n ops (.re o :: l) f S = if againO E ops o f.tmps S then runRS E ck n ops l f S else .fail := fun _ => rfl
    rw [List.cons_append, e, e]
    cases againO E ops o f.tmps S with
    | false => rfl
    | true => exact runRS_append r m f S
end Go.Ax
