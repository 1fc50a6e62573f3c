/-
  Regions whose order is drawn: one order, and that all others come to the same.
-/
import Derived.Test.YtjgknelmjdallaaGreatDoorFcP
noncomputable section
namespace Go.Ax
open Go.RowKit
set_option linter.unusedVariables false
set_option linter.unusedSimpArgs false

/-- Operations that leave the abstract state as it is. -/
def isLook (o : Oper) : Bool := match o.op with
  | .move _ => true
  | .assign _ => true
  | .pick _ _ _ => true
  | .build _ _ => true
  | .buildSlice _ _ _ => true
  | .load _ _ => true
  | .nilCheck _ => true
  | .makeInterface _ _ => true
  | .makeFunc _ _ _ => true
  | .slice _ _ _ _ _ => true
  | .fieldAddr _ _ _ => true
  | .field _ _ _ => true
  | .indexAddr _ _ _ => true
  | .lookup _ _ _ _ => true
  | .typeAssert _ _ _ _ => true
  | .extract _ _ => true
  | .binOp _ _ _ _ _ => true
  | .unOp _ _ _ => true
  | .convert _ _ _ => true
  | .index _ _ _ => true
  | .call c => match c.callee with
    | .builtin .append => false
    | .builtin _ => true
    | _ => false
  | _ => false
section
variable {E : Env} {callK : CallK} {n : Nat} {ops : Array Oper}
theorem ofOpt_same (S : St) (x : Option AV) : (∃ a, ofOpt S x = .val a S) ∨ ofOpt S x = .fail := by
  cases x with
  | none => exact .inr rfl
  | some a => exact .inl ⟨a, rfl⟩
theorem look_same {f : T AV} {S : St} {o : Oper} (h : isLook o = true) : (∃ a, exec1 E f S o = .val a S) ∨ exec1 E f S o = .fail := by
  have hg : (∃ a, ground E.P E.G f S o = .val a S) ∨ ground E.P E.G f S o = .fail := ground_ne
  have hp := ofOpt_same S
  obtain ⟨dst, op, ty, pos, after, guard⟩ := o
  cases op
  case slice t x lo hi mx =>
    cases mx with
    | none =>
      simp only [exec1]
      split
      · split <;> first | exact hp _ | exact .inr rfl
      · split <;> first | exact hp _ | exact .inr rfl
      · split <;> first | exact hp _ | exact .inr rfl
      · exact .inr rfl
    | some m => exact hp _
  case call c =>
    simp only [isLook] at h
    simp only [exec1, callA]
    cases hc : c.callee with
    | value fo => rw [hc] at h; cases h
    | invoke r m => rw [hc] at h; cases h
    | builtin b =>
      rw [hc] at h
      cases b <;> first | (cases h; done) | exact hg | skip
      dsimp only
      split
      · split
        · split
          · exact .inl ⟨_, rfl⟩
          · exact .inr rfl
        · exact .inr rfl
      · exact .inr rfl
  case binOp op t x y yt =>
    simp only [exec1]
    split
    · split
      · split <;> first | exact .inl ⟨_, rfl⟩ | exact .inr rfl
      · split
        · exact .inl ⟨_, rfl⟩
        · exact eqOr_ne
    · exact .inr rfl
  case index t x i =>
    simp only [exec1]
    split
    · split
      · exact .inl ⟨_, rfl⟩
      · exact hg
    · exact .inr rfl
  case convert s d x =>
    simp only [exec1]
    split
    · split
      · exact .inl ⟨_, rfl⟩
      · exact hg
    · exact .inr rfl
  all_goals first
    | (simp [isLook] at h; done)
    | exact hp _
    | exact hg
    | (simp only [exec1]; split <;> first | exact hp _ | exact .inr rfl | exact .inl ⟨_, rfl⟩)

/-- What an operation comes to, whatever becomes of the frame. -/
inductive SR1 where
  | val (a : AV) (S : St)
  | dfr (d : Dfr) (S : St)
  | pan (a : AV) (S : St)
  | fail
def stepR (E : Env) (callK : CallK) (ops : Array Oper) (o : Oper) (f : T AV) (S : St) : SR1 :=
  match wantedA ops o f with
  | none => .fail
  | some false => .val (.tup []) S
  | some true => match exec1 E f S o with
    | .val a S' => .val a S'
    | .skip S' => .val (.tup []) S'
    | .enter k args S' => match callK k args S' with
      | .ret a S'' => .val a S''
      | .pan a S'' => .pan a S''
      | .fail => .fail
    | .dfr fn caps args S' => .dfr ⟨fn, caps, args⟩ S'
    | .pan a S' => .pan a S'
    | .fail => .fail
def okD (n : Nat) : Option Tmp → Bool
  | none => true
  | some d => decide (d < n)
def putT (f : Fr) (dst : Option Tmp) (a : AV) : Fr := match dst with
  | none => f
  | some d => { f with tmps := f.tmps.set d (some a) }
theorem putA_eq (n : Nat) (f : Fr) (dst : Option Tmp) (a : AV) (S : St) : putA n f dst a S = if okD n dst then .out .normal (putT f dst a) S else .fail := by
  cases dst with
  | none => rfl
  | some d => simp [putA, okD, putT]
theorem stepO_eq (o : Oper) (f : Fr) (S : St) : stepO E callK n ops o f S = match stepR E callK ops o f.tmps S with
    | .val a S' => putA n f o.dst a S'
    | .dfr d S' => putA n { f with dfr := d :: f.dfr } o.dst (.tup []) S'
    | .pan a S' => .out (.pan a) f S'
    | .fail => .fail := by
  unfold stepO stepR
  cases wantedA ops o f.tmps with
  | none => rfl
  | some b =>
    cases b with
    | false => rfl
    | true =>
      simp only
      cases exec1 E f.tmps S o with
      | enter k args S' => simp only; cases callK k args S' <;> rfl
      | _ => rfl
def agree (ops : Array Oper) (o : Oper) (f f' : T AV) : Prop := ∀ t ∈ o.looksAt ops, f.get t = f'.get t
theorem agree_eval {o : Oper} {f f' : T AV} (h : agree ops o f f') : ∀ x ∈ o.op.operands, evalO E.G f x = evalO E.G f' x := fun x hx => by
  cases x with
  | tmp t => exact h t (by unfold Oper.looksAt; exact List.mem_append_left _ (List.mem_filterMap.2 ⟨.tmp t, by simpa using hx, rfl⟩))
  | _ => rfl
theorem agree_wanted {o : Oper} {f f' : T AV} (h : agree ops o f f') : wantedA ops o f = wantedA ops o f' := by
  unfold wantedA
  split
  · rfl
  · rename_i j want hg
    split
    · rfl
    · rename_i d hd
      rw [h d (by unfold Oper.looksAt; refine List.mem_append_right _ ?_; rw [hg]; simp [hd])]
theorem stepR_congr {o : Oper} {f f' : T AV} {S : St} (h : agree ops o f f') : stepR E callK ops o f S = stepR E callK ops o f' S := by
  unfold stepR
  rw [agree_wanted h, exec1_congr (agree_eval h)]
theorem agree_put {o : Oper} {f : Fr} {dst : Option Tmp} {a : AV} (h : ∀ d, dst = some d → d ∉ o.looksAt ops) : agree ops o (putT f dst a).tmps f.tmps := fun t ht => by
  cases dst with
  | none => rfl
  | some d =>
    show (f.tmps.set d (some a)).get t = _
    rw [T.get_set, if_neg (by intro e; subst e; exact h _ rfl ht)]
theorem putT_comm (f : Fr) {x y : Option Tmp} (h : ∀ d, x = some d → y ≠ some d) (a b : AV) : putT (putT f x a) y b = putT (putT f y b) x a := by
  cases x with
  | none => rfl
  | some d =>
    cases y with
    | none => rfl
    | some e =>
      have hne : e ≠ d := fun he => h d rfl (he ▸ rfl)
      show ({ f with tmps := (f.tmps.set d (some a)).set e (some b) } : Fr) = { f with tmps := (f.tmps.set e (some b)).set d (some a) }
      rw [T.set_comm f.tmps hne]
/-- A look's value. -/
def lookV (E : Env) (ops : Array Oper) (o : Oper) (f : T AV) (S : St) : Option AV :=
  match wantedA ops o f with
  | none => none
  | some false => some (.tup [])
  | some true => match exec1 E f S o with
    | .val a _ => some a
    | _ => none
theorem lookV_congr {o : Oper} {f f' : T AV} {S : St} (h : agree ops o f f') : lookV E ops o f S = lookV E ops o f' S := by
  unfold lookV
  rw [agree_wanted h, exec1_congr (agree_eval h)]
theorem stepR_look {o : Oper} (hl : isLook o = true) (f : T AV) (S : St) : stepR E callK ops o f S = match lookV E ops o f S with
    | some a => .val a S
    | none => .fail := by
  unfold stepR lookV
  cases wantedA ops o f with
  | none => rfl
  | some b =>
    cases b with
    | false => rfl
    | true =>
      rcases look_same (E := E) (f := f) (S := S) hl with ⟨a, h⟩ | h <;> rw [h]

/-- Looks that don't hang on the state. -/
def pureO (o : Oper) : Bool := match o.op with
  | .move _ => true
  | .assign _ => true
  | .pick _ _ _ => true
  | .build _ _ => true
  | .buildSlice _ _ _ => true
  | .nilCheck _ => true
  | .makeInterface _ _ => true
  | .makeFunc _ _ _ => true
  | .slice _ _ _ _ _ => true
  | .fieldAddr _ _ _ => true
  | .field _ _ _ => true
  | .indexAddr _ _ _ => true
  | .typeAssert _ _ _ _ => true
  | .extract _ _ => true
  | .binOp _ _ _ _ _ => true
  | .unOp _ _ _ => true
  | .convert _ _ _ => true
  | .index _ _ _ => true
  | _ => false
def OR.look : OR → Option AV
  | .val a _ => some a
  | _ => none
theorem ofOpt_look (S : St) (x : Option AV) : (ofOpt S x).look = x := by cases x <;> rfl
theorem ground_look {f : T AV} {S S' : St} {o : Oper} : (ground E.P E.G f S o).look = (ground E.P E.G f S' o).look := by
  unfold ground
  split
  · split
    · split <;> rfl
    · rfl
  · rfl
theorem pure_look {f : T AV} {S S' : St} {o : Oper} (h : pureO o = true) : (exec1 E f S o).look = (exec1 E f S' o).look := by
  have hg := ground_look (E := E) (f := f) (S := S) (S' := S') (o := o)
  obtain ⟨dst, op, ty, pos, after, guard⟩ := o
  cases op
  case slice t x lo hi mx =>
    cases mx with
    | none =>
      simp only [exec1]
      split
      · split
        · simp only [ofOpt_look]
        · rfl
      · split
        · simp only [ofOpt_look]
        · rfl
      · split
        · simp only [ofOpt_look]
        · rfl
      · rfl
    | some m => simp only [exec1, ofOpt_look]
  case binOp op t x y yt =>
    simp only [exec1]
    split
    · split
      · split <;> rfl
      · split
        · rfl
        · unfold eqOr; split
          · rfl
          · exact hg
    · rfl
  case index t x i =>
    simp only [exec1]
    split
    · split
      · rfl
      · exact hg
    · rfl
  case convert s d x =>
    simp only [exec1]
    split
    · split
      · rfl
      · exact hg
    · rfl
  all_goals first
    | (simp [pureO] at h; done)
    | (simp only [exec1, ofOpt_look]; done)
    | exact hg
    | (simp only [exec1]; split <;> first | (simp only [ofOpt_look]; done) | rfl)
theorem pure_lookV {f : T AV} {S S' : St} {o : Oper} (h : pureO o = true) : lookV E ops o f S = lookV E ops o f S' := by
  have e : ∀ S, lookV E ops o f S = match wantedA ops o f with | none => none | some false => some (.tup []) | some true => (exec1 E f S o).look := fun S => by
    unfold lookV
    cases wantedA ops o f with
    | none => rfl
    | some b =>
      cases b with
      | false => rfl
      | true => dsimp only; cases exec1 E f S o <;> rfl
  rw [e S, e S', pure_look h]
structure Look where
  idx : Nat
  o : Oper
  f : T AV
  a : AV
def recheck (E : Env) (ops : Array Oper) (m : Nat) (S : St) (l : Look) : Bool := m.testBit l.idx || pureO l.o || (match lookV E ops l.o l.f S with
  | some b => beqA l.a b
  | none => false)
def drun (E : Env) (callK : CallK) (n : Nat) (ops : Array Oper) (ms : List Nat) (fb : Fr) : List Nat → Fr → St → List Look → O
  | [], f, S, _ => .out .normal f S
  | i :: r, f, S, L => match ops[i]? with
    | none => .fail
    | some o => if isLook o then (match lookV E ops o f.tmps S with
        | some a => if okD n o.dst then drun E callK n ops ms fb r (putT f o.dst a) S (⟨i, o, f.tmps, a⟩ :: L) else .fail
        | none => .fail)
      else (match stepR E callK ops o f.tmps S with
        | .val a S' => if okD n o.dst && L.all (recheck E ops (ms.getD i 0) S') then drun E callK n ops ms fb r (putT f o.dst a) S' L else .fail
        | .pan a S' => .out (.pan a) fb S'
        | _ => .fail)
/-- Fewer looks to look at again. -/
def LSub (E : Env) (ops : Array Oper) (L' L : List Look) : Prop := ∀ l' ∈ L', ∃ l ∈ L, l.idx = l'.idx ∧ l.a = l'.a ∧ pureO l.o = pureO l'.o ∧ ∀ S, lookV E ops l.o l.f S = lookV E ops l'.o l'.f S
theorem LSub.all {L' L : List Look} (h : LSub E ops L' L) {m : Nat} {S : St} (ha : L.all (recheck E ops m S) = true) : L'.all (recheck E ops m S) = true := by
  rw [List.all_eq_true] at ha ⊢
  intro l' hl'
  obtain ⟨l, hl, h1, h2, h4, h3⟩ := h l' hl'
  have := ha l hl
  unfold recheck at this ⊢
  rw [← h1, ← h2, ← h3, ← h4]
  exact this
theorem LSub.cons {L' L : List Look} (h : LSub E ops L' L) (l : Look) : LSub E ops (l :: L') (l :: L) := fun l' hl' => by
  rcases List.mem_cons.1 hl' with rfl | hl'
  · exact ⟨_, List.mem_cons_self .., rfl, rfl, rfl, fun _ => rfl⟩
  · obtain ⟨x, hx, r⟩ := h l' hl'; exact ⟨x, List.mem_cons_of_mem _ hx, r⟩
theorem drun_sub {ms : List Nat} {fb : Fr} : ∀ (rem : List Nat) (f : Fr) (S : St) (L L' : List Look) (R : O), drun E callK n ops ms fb rem f S L = R → R ≠ .fail → LSub E ops L' L → drun E callK n ops ms fb rem f S L' = R
  | [], f, S, L, L', R, h, hne, hs => h
  | i :: r, f, S, L, L', R, h, hne, hs => by
    unfold drun at h ⊢
    split at h
    · exact absurd h.symm hne
    · rename_i o ho
      split at h
      · rename_i hl
        rw [if_pos hl]
        split at h
        · rename_i a hv
          split at h
          · rename_i hd
            rw [if_pos hd]
            exact drun_sub r _ S _ _ R h hne (hs.cons _)
          · exact absurd h.symm hne
        · exact absurd h.symm hne
      · rename_i hl
        rw [if_neg hl]
        split at h
        · rename_i a S' hv
          split at h
          · rename_i hd
            have hd2 : (okD n o.dst && L'.all (recheck E ops (ms.getD i 0) S')) = true := by
              rw [Bool.and_eq_true] at hd ⊢
              exact ⟨hd.1, hs.all hd.2⟩
            rw [if_pos hd2]
            exact drun_sub r _ S' L L' R h hne hs
          · exact absurd h.symm hne
        · rename_i a S' hv
          exact h
        · exact absurd h.symm hne
def okP (ops : Array Oper) (ms : List Nat) (j i : Nat) : Bool := (ms.getD i 0).testBit j || (match ops[j]?, ops[i]? with
  | some a, some b => isLook a && a.apart ops b
  | _, _ => false)
def pairsOk (ops : Array Oper) (ms : List Nat) : List Nat → Bool
  | [] => true
  | j :: r => r.all (fun i => okP ops ms j i) && pairsOk ops ms r
/-- What the next one comes to if it is another one than the first of the order. -/
def Early (E : Env) (callK : CallK) (n : Nat) (ops : Array Oper) (ms : List Nat) (fb : Fr) (rem : List Nat) (f : Fr) (S : St) (L : List Look) (i : Nat) (o : Oper) (R : O) : Prop :=
  (isLook o = true ∧ ∃ a, lookV E ops o f.tmps S = some a ∧ okD n o.dst = true ∧ drun E callK n ops ms fb (rem.erase i) (putT f o.dst a) S L = R) ∨
  (isLook o = false ∧ ((∃ a S', stepR E callK ops o f.tmps S = .val a S' ∧ okD n o.dst = true ∧ L.all (recheck E ops (ms.getD i 0) S') = true ∧ drun E callK n ops ms fb (rem.erase i) (putT f o.dst a) S' L = R) ∨
    ∃ a S', stepR E callK ops o f.tmps S = .pan a S' ∧ R = .out (.pan a) fb S'))
theorem bubble {ms : List Nat} {fb : Fr} {i : Nat} {o : Oper} (ho : ops[i]? = some o) : ∀ (rem : List Nat) (f : Fr) (S : St) (L : List Look) (R : O), i ∈ rem → (∀ j ∈ rem, j ≠ i → (ms.getD i 0).testBit j = false) → pairsOk ops ms rem = true →
    drun E callK n ops ms fb rem f S L = R → R ≠ .fail → Early E callK n ops ms fb rem f S L i o R
  | [], f, S, L, R, hi, _, _, _, _ => by cases hi
  | j :: r, f, S, L, R, hi, hfree, hp, h, hne => by
    by_cases hji : j = i
    · subst hji
      unfold drun at h
      rw [ho] at h
      simp only at h
      unfold Early
      rw [List.erase_cons_head]
      split at h
      · rename_i hl
        refine .inl ⟨hl, ?_⟩
        split at h
        · rename_i a hv
          split at h
          · rename_i hd
            exact ⟨a, hv, hd, drun_sub r _ S _ _ R h hne (fun l hl => ⟨l, List.mem_cons_of_mem _ hl, rfl, rfl, rfl, fun _ => rfl⟩)⟩
          · exact absurd h.symm hne
        · exact absurd h.symm hne
      · rename_i hl
        refine .inr ⟨by simpa using hl, ?_⟩
        split at h
        · rename_i a S' hv
          split at h
          · rename_i hd
            rw [Bool.and_eq_true] at hd
            exact .inl ⟨a, S', hv, hd.1, hd.2, h⟩
          · exact absurd h.symm hne
        · rename_i a S' hv
          exact .inr ⟨a, S', hv, h.symm⟩
        · exact absurd h.symm hne
    · have hir : i ∈ r := (List.mem_cons.1 hi).resolve_left (fun e => hji e.symm)
      have hbit := hfree j (List.mem_cons_self ..) hji
      unfold pairsOk at hp
      rw [Bool.and_eq_true] at hp
      have hok := List.all_eq_true.1 hp.1 i hir
      unfold okP at hok
      rw [hbit, Bool.false_or] at hok
      unfold drun at h
      split at h
      · exact absurd h.symm hne
      · rename_i oj hoj
        rw [hoj, ho] at hok
        simp only [Bool.and_eq_true] at hok
        obtain ⟨hlj, hap⟩ := hok
        obtain ⟨p1, p2, p3⟩ := Oper.apart_spec hap
        rw [if_pos hlj] at h
        split at h
        · rename_i aj hvj
          split at h
          · rename_i hdj
            have ih := bubble ho r (putT f oj.dst aj) S (⟨j, oj, f.tmps, aj⟩ :: L) R hir (fun k hk hki => hfree k (List.mem_cons_of_mem _ hk) hki) hp.2 h hne
            have hag : agree ops o (putT f oj.dst aj).tmps f.tmps := agree_put p1
            have hera : (j :: r).erase i = j :: r.erase i := by rw [List.erase_cons_tail (by simpa using hji)]
            have hswap : ∀ (a : AV), putT (putT f oj.dst aj) o.dst a = putT (putT f o.dst a) oj.dst aj := fun a => putT_comm f p2 aj a
            -- the first one, behind the other
            have back : ∀ (a : AV) (S' : St) (L0 : List Look), lookV E ops oj f.tmps S' = some aj → drun E callK n ops ms fb (r.erase i) (putT (putT f oj.dst aj) o.dst a) S' (⟨j, oj, f.tmps, aj⟩ :: L0) = R → drun E callK n ops ms fb (j :: r.erase i) (putT f o.dst a) S' L0 = R := fun a S' L0 hv hd => by
              have hagj : agree ops oj (putT f o.dst a).tmps f.tmps := agree_put p3
              unfold drun
              rw [hoj]
              simp only
              rw [if_pos hlj, lookV_congr hagj, hv]
              simp only
              rw [if_pos hdj, ← hswap]
              refine drun_sub _ _ _ _ _ R hd hne (fun l hl => ?_)
              rcases List.mem_cons.1 hl with rfl | hl
              · exact ⟨_, List.mem_cons_self .., rfl, rfl, rfl, fun S => (lookV_congr hagj).symm⟩
              · exact ⟨l, List.mem_cons_of_mem _ hl, rfl, rfl, rfl, fun _ => rfl⟩
            unfold Early at ih ⊢
            rw [hera]
            rcases ih with ⟨hl, a, hv, hd, hrun⟩ | ⟨hl, ⟨a, S', hv, hd, hall, hrun⟩ | ⟨a, S', hv, hR⟩⟩
            · rw [lookV_congr hag] at hv
              exact .inl ⟨hl, a, hv, hd, back a S L hvj hrun⟩
            · rw [stepR_congr hag] at hv
              rw [List.all_cons, Bool.and_eq_true] at hall
              have hre := hall.1
              unfold recheck at hre
              simp only [hbit, Bool.false_or] at hre
              cases hpu : pureO oj with
              | true => exact .inr ⟨hl, .inl ⟨a, S', hv, hd, hall.2, back a S' L ((pure_lookV hpu).trans hvj) hrun⟩⟩
              | false =>
              simp only [hpu, Bool.false_or] at hre
              split at hre
              · rename_i b hb
                have hb2 : lookV E ops oj f.tmps S' = some aj := by rw [beqA_eq _ _ hre]; exact hb
                exact .inr ⟨hl, .inl ⟨a, S', hv, hd, hall.2, back a S' L hb2 hrun⟩⟩
              · cases hre
            · rw [stepR_congr hag] at hv
              exact .inr ⟨hl, .inr ⟨a, S', hv, hR⟩⟩
          · exact absurd h.symm hne
        · exact absurd h.symm hne
end
end Go.Ax
