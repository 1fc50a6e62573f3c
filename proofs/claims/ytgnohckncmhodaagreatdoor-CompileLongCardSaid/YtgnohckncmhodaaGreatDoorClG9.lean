/-
  Runs reasoned over without numbers of rounds: what holds of a run from some number of rounds on; rules for code, regions, calls, loops.
-/
import Derived.Test.YtgnohckncmhodaaGreatDoorClG8
import Derived.Test.YtgnohckncmhodaaGreatDoorProg
import Derived.ProofKit
import Derived.Laws.Slices
import Derived.IntWalk
import Derived.Lib.AppendZerosOnto
import Derived.Test.YtgnohckncmhodaaGreatDoorAxShelf
import Derived.Lib.AtoiErrMem
import Derived.KernelRfl
import Derived.Lib.ParseIntB
set_option linter.unusedVariables false
set_option linter.unusedSimpArgs false
set_option maxHeartbeats 16000000
noncomputable section
namespace Go.Ax
open Go.RowKit
set_option linter.unusedVariables false
set_option linter.unusedSimpArgs false
abbrev ckN (E : Env) (m : Nat) : CallK := callN E (drawnNew E) m
/-- From some number of rounds on a call ends so. -/
def CT (E : Env) (k : FuncId) (args : List AV) (S : St) (r : R) : Prop := ∃ m0, ∀ m, m0 ≤ m → ckN E m k args S = r
def RT (E : Env) (n : Nat) (c : Code) (f : Fr) (S : St) (r : O) : Prop := ∃ m0, ∀ m, m0 ≤ m → run E (drawnNew E) m n c f S = r
def LT (E : Env) (n : Nat) (ops : Array Oper) (l : List Oper) (f : Fr) (S : St) (r : O) : Prop := ∃ m0, ∀ m, m0 ≤ m → runL E (ckN E m) n ops l f S = r
def DT (E : Env) (n : Nat) (ops : Array Oper) (l : List RS) (f : Fr) (S : St) (r : O) : Prop := ∃ m0, ∀ m, m0 ≤ m → runRS E (ckN E m) n ops l f S = r
/-- It ends so that .. -/
def WC (E : Env) (k : FuncId) (args : List AV) (S : St) (Q : R → Prop) : Prop := ∃ r, CT E k args S r ∧ Q r
def WX (E : Env) (n : Nat) (c : Code) (f : Fr) (S : St) (Q : O → Prop) : Prop := ∃ r, RT E n c f S r ∧ Q r
def putW (n : Nat) (f : Fr) (dst : Option Tmp) (a : AV) (S : St) (K : Fr → St → Prop) : Prop := match dst with
  | none => K f S
  | some d => d < n ∧ K { f with tmps := f.tmps.set d (some a) } S
def retW (n : Nat) (f : Fr) (dst : Option Tmp) (K : Fr → St → Prop) (Q : O → Prop) : R → Prop
  | .ret a S => putW n f dst a S K
  | .pan a S => Q (.out (.pan a) f S)
  | .fail => False
def execW (E : Env) (n : Nat) (o : Oper) (f : Fr) (K : Fr → St → Prop) (Q : O → Prop) : OR → Prop
  | .val a S' => putW n f o.dst a S' K
  | .skip S' => putW n f o.dst (.tup []) S' K
  | .enter k args S' => WC E k args S' (retW n f o.dst K Q)
  | .dfr fn caps args S' => putW n { f with dfr := ⟨fn, caps, args⟩ :: f.dfr } o.dst (.tup []) S' K
  | .pan a S' => Q (.out (.pan a) f S')
  | .fail => False
def stepW (E : Env) (n : Nat) (ops : Array Oper) (o : Oper) (f : Fr) (S : St) (K : Fr → St → Prop) (Q : O → Prop) : Prop := match wantedA ops o f.tmps with
  | none => False
  | some false => putW n f o.dst (.tup []) S K
  | some true => execW E n o f K Q (exec1 E f.tmps S o)
def WL (E : Env) (n : Nat) (ops : Array Oper) : List Oper → Fr → St → (O → Prop) → Prop
  | [], f, S, Q => Q (.out .normal f S)
  | o :: l, f, S, Q => stepW E n ops o f S (fun f' S' => WL E n ops l f' S' Q) Q
def WR (E : Env) (n : Nat) (ops : Array Oper) : List RS → Fr → St → (O → Prop) → Prop
  | [], f, S, Q => Q (.out .normal f S)
  | .op o :: l, f, S, Q => stepW E n ops o f S (fun f' S' => WR E n ops l f' S' Q) Q
  | .re o :: l, f, S, Q => againO E ops o f.tmps S = true ∧ WR E n ops l f S Q
/-- A region whose order is drawn. -/
def WD (E : Env) (n : Nat) (ops : Array Oper) (f : Fr) (S : St) (Q : O → Prop) : Prop := ∃ r, (∃ m0, ∀ m, m0 ≤ m → drawnNew E (ckN E m) n ops f S = r) ∧ Q r
def thenW (K : Fr → St → Prop) (Q : O → Prop) : O → Prop
  | .out .normal f S => K f S
  | r => Q r
def blockW (id : Nat) (Q : O → Prop) : O → Prop
  | .out (.exit id') f S => if id' = id then Q (.out .normal f S) else Q (.out (.exit id') f S)
  | r => Q r
def condW (c : Option AV) (x y : Prop) : Prop := match c with
  | some (.v (.bool true)) => x
  | some (.v (.bool false)) => y
  | _ => False
theorem condW_bool (b : Bool) (x y : Prop) : condW (some (.v (.bool b))) x y ↔ (b = true → x) ∧ (b = false → y) := by
  cases b <;> simp [condW]
def W (E : Env) (n : Nat) (c : Code) (f : Fr) (S : St) (Q : O → Prop) : Prop := match c with
  | .skip => Q (.out .normal f S)
  | .label _ => Q (.out .normal f S)
  | .region _ ops false => WL E n ops ops.toList f S Q
  | .region _ ops true => WD E n ops f S Q
  | .seq a b => W E n a f S (thenW (fun f' S' => W E n b f' S' Q) Q)
  | .cond c x y => condW (evalO E.G f.tmps c) (W E n x f S Q) (W E n y f S Q)
  | .block id c => W E n c f S (blockW id Q)
  | .loop c => WX E n (.loop c) f S Q
  | .exit id => Q (.out (.exit id) f S)
  | .ret => Q (.out .ret f S)
  | _ => False
theorem run_succ (E : Env) (m n : Nat) (c : Code) (f : Fr) (S : St) : run E (drawnNew E) (m + 1) n c f S = stepC E (drawnNew E) (run E (drawnNew E) m) (ckN E m) n c f S := rfl
theorem put_sound {n : Nat} {f : Fr} {dst : Option Tmp} {a : AV} {S : St} {K : Fr → St → Prop} (h : putW n f dst a S K) : ∃ f', putA n f dst a S = .out .normal f' S ∧ K f' S := by
  unfold putW at h; unfold putA
  cases dst with
  | none => exact ⟨f, rfl, h⟩
  | some d => exact ⟨_, by simp only [if_pos h.1], h.2⟩
/-- A step, from some number of rounds on. -/
theorem step_sound {E : Env} {n : Nat} {ops : Array Oper} {o : Oper} {f : Fr} {S : St} {K : Fr → St → Prop} {Q : O → Prop} (h : stepW E n ops o f S K Q) :
    ∃ m0, (∃ f' S', K f' S' ∧ ∀ m, m0 ≤ m → stepO E (ckN E m) n ops o f S = .out .normal f' S') ∨ (∃ a f' S', Q (.out (.pan a) f' S') ∧ ∀ m, m0 ≤ m → stepO E (ckN E m) n ops o f S = .out (.pan a) f' S') := by
  unfold stepW at h
  have hput : ∀ {dst a S'}, putW n f dst a S' K → (∀ m, stepO E (ckN E m) n ops o f S = putA n f dst a S') → ∃ m0, (∃ f' S', K f' S' ∧ ∀ m, m0 ≤ m → stepO E (ckN E m) n ops o f S = .out .normal f' S') ∨ (∃ a f' S', Q (.out (.pan a) f' S') ∧ ∀ m, m0 ≤ m → stepO E (ckN E m) n ops o f S = .out (.pan a) f' S') := fun hp he => by
    obtain ⟨f', e, hk⟩ := put_sound hp
    exact ⟨0, .inl ⟨f', _, hk, fun m _ => (he m).trans e⟩⟩
  cases hw : wantedA ops o f.tmps with
  | none => rw [hw] at h; exact h.elim
  | some b =>
    rw [hw] at h
    cases b with
    | false => exact hput h (fun m => by unfold stepO; rw [hw])
    | true =>
      unfold execW at h
      simp only at h
      cases hx : exec1 E f.tmps S o with
      | val a S' => rw [hx] at h; exact hput h (fun m => by unfold stepO; rw [hw]; simp only [hx])
      | skip S' => rw [hx] at h; exact hput h (fun m => by unfold stepO; rw [hw]; simp only [hx])
      | enter k args S' =>
        rw [hx] at h
        obtain ⟨r, ⟨m0, hm⟩, hq⟩ := h
        unfold retW at hq
        cases r with
        | ret a S2 =>
          obtain ⟨f', e, hk⟩ := put_sound hq
          exact ⟨m0, .inl ⟨f', _, hk, fun m h => by unfold stepO; rw [hw]; simp only [hx, hm m h, e]⟩⟩
        | pan a S2 => exact ⟨m0, .inr ⟨a, _, _, hq, fun m h => by unfold stepO; rw [hw]; simp only [hx, hm m h]⟩⟩
        | fail => exact hq.elim
      | dfr fn caps args S' =>
        rw [hx] at h
        obtain ⟨f', e, hk⟩ := put_sound h
        exact ⟨0, .inl ⟨f', _, hk, fun m _ => by unfold stepO; rw [hw]; simp only [hx, e]⟩⟩
      | pan a S' => rw [hx] at h; exact ⟨0, .inr ⟨a, _, _, h, fun m _ => by unfold stepO; rw [hw]; simp only [hx]⟩⟩
      | fail => rw [hx] at h; exact h.elim
theorem WL_sound {E : Env} {n : Nat} {ops : Array Oper} : ∀ {l : List Oper} {f : Fr} {S : St} {Q : O → Prop}, WL E n ops l f S Q → ∃ r, LT E n ops l f S r ∧ Q r
  | [], f, S, Q, h => ⟨_, ⟨0, fun _ _ => rfl⟩, h⟩
  | o :: l, f, S, Q, h => by
    obtain ⟨m0, ⟨f', S', hk, hm⟩ | ⟨a, f', S', hq, hm⟩⟩ := step_sound h
    · obtain ⟨r, ⟨m1, h1⟩, h2⟩ := WL_sound hk
      exact ⟨r, ⟨max m0 m1, fun m hmm => by
        show (match stepO E (ckN E m) n ops o f S with | .out .normal f' S' => runL E (ckN E m) n ops l f' S' | x => x) = r
        rw [hm m (by omega)]; exact h1 m (by omega)⟩, h2⟩
    · exact ⟨_, ⟨m0, fun m hmm => by
        show (match stepO E (ckN E m) n ops o f S with | .out .normal f' S' => runL E (ckN E m) n ops l f' S' | x => x) = _
        rw [hm m hmm]⟩, hq⟩
theorem WR_sound {E : Env} {n : Nat} {ops : Array Oper} : ∀ {l : List RS} {f : Fr} {S : St} {Q : O → Prop}, WR E n ops l f S Q → ∃ r, DT E n ops l f S r ∧ r ≠ .fail ∧ Q r
  | [], f, S, Q, h => ⟨_, ⟨0, fun _ _ => rfl⟩, (fun e => by cases e), h⟩
  | .op o :: l, f, S, Q, h => by
    obtain ⟨m0, ⟨f', S', hk, hm⟩ | ⟨a, f', S', hq, hm⟩⟩ := step_sound h
    · obtain ⟨r, ⟨m1, h1⟩, h3, h2⟩ := WR_sound hk
      exact ⟨r, ⟨max m0 m1, fun m hmm => by
        show (match stepO E (ckN E m) n ops o f S with | .out .normal f' S' => runRS E (ckN E m) n ops l f' S' | x => x) = r
        rw [hm m (by omega)]; exact h1 m (by omega)⟩, h3, h2⟩
    · exact ⟨_, ⟨m0, fun m hmm => by
        show (match stepO E (ckN E m) n ops o f S with | .out .normal f' S' => runRS E (ckN E m) n ops l f' S' | x => x) = _
        rw [hm m hmm]⟩, (fun e => by cases e), hq⟩
  | .re o :: l, f, S, Q, h => by
    obtain ⟨r, ⟨m1, h1⟩, h3, h2⟩ := WR_sound h.2
    exact ⟨r, ⟨m1, fun m hmm => by
      show (if againO E ops o f.tmps S = true then runRS E (ckN E m) n ops l f S else .fail) = r
      rw [if_pos h.1]; exact h1 m hmm⟩, h3, h2⟩
/-- A drawn region, by one order. -/
theorem WD_steps {E : Env} {n : Nat} {ops : Array Oper} {f : Fr} {S : St} {Q : O → Prop} {rs : List RS} (h3 : stepsD ops (bm ops.toList []) (eager ops (bm ops.toList []) ops.size (List.range ops.size) 0) [] = some rs)
    (h2 : static ops (bm ops.toList []) (eager ops (bm ops.toList []) ops.size (List.range ops.size) 0) = true) (h : WR E n ops rs f S (fun r => Q (fixX ⟨eraseT ops.toList f.tmps, f.dfr⟩ r))) : WD E n ops f S Q := by
  obtain ⟨r, ⟨m0, hm⟩, hne, hq⟩ := WR_sound h
  have h1 : flFind E.P ops = none := by unfold flFind; simp only [h2, if_true]
  have h1m : mkFind E.P ops = none := by unfold mkFind; simp only [h2, if_true]
  have h1n : mk2Find E.P ops = none := by unfold mk2Find; simp only [h2, if_true]
  have h1t : isTwo ops = false := by unfold isTwo; simp only [h2, if_true]
  refine ⟨_, ⟨m0, fun m hmm => ?_⟩, hq⟩
  unfold drawnNew
  rw [h1]
  simp only [h1m, h1n, h1t, Bool.false_eq_true, if_false]
  unfold drawnRun
  simp only
  rw [if_pos h2]
  rcases drun_steps (E := E) (ck := ckN E m) (n := n) (fb := ⟨eraseT ops.toList f.tmps, f.dfr⟩) _ rs f S [] h3 (fun _ h => absurd h List.not_mem_nil) with h | h
  · rw [hm m hmm] at h; exact absurd h hne
  · rw [h, hm m hmm]
theorem WD_fl {E : Env} {n : Nat} {ops : Array Oper} {f : Fr} {S : St} {Q : O → Prop} {x : FlP} {rs : List RS} (h1 : flFind E.P ops = some x) (h2 : allSteps ops x = some rs) (h3 : x.d < n)
    (h : WR E n ops rs ⟨f.tmps.set x.d none, f.dfr⟩ S (fun r => Q (fixX ⟨eraseT ops.toList f.tmps, f.dfr⟩ r))) : WD E n ops f S Q := by
  obtain ⟨r, ⟨m0, hm⟩, hne, hq⟩ := WR_sound h
  refine ⟨_, ⟨m0, fun m hmm => ?_⟩, hq⟩
  unfold drawnNew
  rw [h1]
  simp only
  unfold drawnFl
  rw [h2]
  simp only
  rw [if_pos h3, hm m hmm]
theorem WD_mk {E : Env} {n : Nat} {ops : Array Oper} {f : Fr} {S : St} {Q : O → Prop} {x : MkX} {rs : List RS} (h0 : flFind E.P ops = none) (h1 : mkFind E.P ops = some x) (h2 : mkSteps ops x = some rs) (h3 : mkFit E.P n ops x = true)
    (h : WR E n ops rs ⟨clearT E.P ops x.mks f.tmps, f.dfr⟩ S (fun r => Q (fixX ⟨eraseT ops.toList f.tmps, f.dfr⟩ r))) : WD E n ops f S Q := by
  obtain ⟨r, ⟨m0, hm⟩, hne, hq⟩ := WR_sound h
  refine ⟨_, ⟨m0, fun m hmm => ?_⟩, hq⟩
  unfold drawnNew
  rw [h0]
  simp only [h1]
  unfold drawnMk
  rw [h2]
  simp only
  rw [if_pos h3, hm m hmm]
/-- Steps by their numbers. -/
def rsOf (ops : Array Oper) : List (Nat × Bool) → List RS
  | [] => []
  | (i, b) :: r => match ops[i]? with
    | some o => (if b then RS.op o else RS.re o) :: rsOf ops r
    | none => []
theorem fix_normal (fb f : Fr) (S : St) : fixX fb (.out .normal f S) = .out .normal f S := rfl
theorem fix_pan (fb f : Fr) (a : AV) (S : St) : fixX fb (.out (.pan a) f S) = .out (.pan a) fb S := rfl
theorem thenW_normal (K : Fr → St → Prop) (Q : O → Prop) (f : Fr) (S : St) : thenW K Q (.out .normal f S) = K f S := rfl
theorem thenW_exit (K : Fr → St → Prop) (Q : O → Prop) (id : Nat) (f : Fr) (S : St) : thenW K Q (.out (.exit id) f S) = Q (.out (.exit id) f S) := rfl
theorem thenW_ret (K : Fr → St → Prop) (Q : O → Prop) (f : Fr) (S : St) : thenW K Q (.out .ret f S) = Q (.out .ret f S) := rfl
theorem thenW_pan (K : Fr → St → Prop) (Q : O → Prop) (a : AV) (f : Fr) (S : St) : thenW K Q (.out (.pan a) f S) = Q (.out (.pan a) f S) := rfl
theorem W_sound {E : Env} {n : Nat} : ∀ {c : Code} {f : Fr} {S : St} {Q : O → Prop}, W E n c f S Q → WX E n c f S Q := by
  have up : ∀ {c : Code} {f : Fr} {S : St} {r : O}, (∃ m0, ∀ m, m0 ≤ m → stepC E (drawnNew E) (run E (drawnNew E) m) (ckN E m) n c f S = r) → RT E n c f S r := fun ⟨m0, h⟩ => ⟨m0 + 1, fun m hm => by
    obtain ⟨k, rfl⟩ : ∃ k, m = k + 1 := ⟨m - 1, by omega⟩
    rw [run_succ]; exact h k (by omega)⟩
  intro c
  induction c with
  | skip => intro f S Q h; unfold W at h; exact ⟨_, up ⟨0, fun _ _ => rfl⟩, h⟩
  | label l => intro f S Q h; unfold W at h; exact ⟨_, up ⟨0, fun _ _ => rfl⟩, h⟩
  | region id ops draw =>
    intro f S Q h
    unfold W at h
    cases draw with
    | false =>
      obtain ⟨r, ⟨m0, hm⟩, hq⟩ := WL_sound h
      exact ⟨r, up ⟨m0, fun m hmm => hm m hmm⟩, hq⟩
    | true =>
      obtain ⟨r, ⟨m0, hm⟩, hq⟩ := h
      exact ⟨r, up ⟨m0, fun m hmm => hm m hmm⟩, hq⟩
  | seq a b iha ihb =>
    intro f S Q h
    unfold W at h
    obtain ⟨r, ⟨m0, hm⟩, hq⟩ := iha h
    have other : thenW (fun f' S' => W E n b f' S' Q) Q r = Q r → (∀ m, m0 ≤ m → stepC E (drawnNew E) (run E (drawnNew E) m) (ckN E m) n (.seq a b) f S = r) → WX E n (.seq a b) f S Q := fun e he => ⟨r, up ⟨m0, he⟩, by rw [← e]; exact hq⟩
    cases r with
    | fail => exact other rfl (fun m hmm => by unfold stepC; simp only [hm m hmm])
    | out e f' S' =>
      cases e with
      | normal =>
        obtain ⟨r, ⟨m1, h1⟩, hq⟩ := ihb hq
        exact ⟨r, up ⟨max m0 m1, fun m hmm => by
          unfold stepC; simp only
          rw [hm m (by omega)]; exact h1 m (by omega)⟩, hq⟩
      | exit id => exact other rfl (fun m hmm => by unfold stepC; simp only [hm m hmm])
      | ret => exact other rfl (fun m hmm => by unfold stepC; simp only [hm m hmm])
      | pan a => exact other rfl (fun m hmm => by unfold stepC; simp only [hm m hmm])
  | cond c x y ihx ihy =>
    intro f S Q h
    unfold W at h
    unfold condW at h
    split at h
    · rename_i hc
      obtain ⟨r, ⟨m0, hm⟩, hq⟩ := ihx h
      exact ⟨r, up ⟨m0, fun m hmm => by unfold stepC; simp only [hc]; exact hm m hmm⟩, hq⟩
    · rename_i hc
      obtain ⟨r, ⟨m0, hm⟩, hq⟩ := ihy h
      exact ⟨r, up ⟨m0, fun m hmm => by unfold stepC; simp only [hc]; exact hm m hmm⟩, hq⟩
    · exact h.elim
  | block id c ih =>
    intro f S Q h
    unfold W at h
    obtain ⟨r, ⟨m0, hm⟩, hq⟩ := ih h
    have other : blockW id Q r = Q r → (∀ m, m0 ≤ m → stepC E (drawnNew E) (run E (drawnNew E) m) (ckN E m) n (.block id c) f S = r) → WX E n (.block id c) f S Q := fun e he => ⟨r, up ⟨m0, he⟩, by rw [← e]; exact hq⟩
    cases r with
    | fail => exact other rfl (fun m hmm => by unfold stepC; simp only [hm m hmm])
    | out e f' S' =>
      cases e with
      | exit id' =>
        unfold blockW at hq
        simp only at hq
        by_cases hi : id' = id
        · rw [if_pos hi] at hq
          exact ⟨_, up ⟨m0, fun m hmm => by unfold stepC; simp only [hm m hmm, if_pos hi]⟩, hq⟩
        · rw [if_neg hi] at hq
          exact ⟨_, up ⟨m0, fun m hmm => by unfold stepC; simp only [hm m hmm, if_neg hi]⟩, hq⟩
      | normal => exact other rfl (fun m hmm => by unfold stepC; simp only [hm m hmm])
      | ret => exact other rfl (fun m hmm => by unfold stepC; simp only [hm m hmm])
      | pan a => exact other rfl (fun m hmm => by unfold stepC; simp only [hm m hmm])
  | loop c ih => intro f S Q h; unfold W at h; exact h
  | exit id => intro f S Q h; unfold W at h; exact ⟨_, up ⟨0, fun _ _ => rfl⟩, h⟩
  | ret => intro f S Q h; unfold W at h; exact ⟨_, up ⟨0, fun _ _ => rfl⟩, h⟩
  | _ => intro f S Q h; unfold W at h; exact h.elim
theorem WX.mono {E : Env} {n : Nat} {c : Code} {f : Fr} {S : St} {Q Q' : O → Prop} (h : WX E n c f S Q) (hq : ∀ r, Q r → Q' r) : WX E n c f S Q' := by
  obtain ⟨r, h1, h2⟩ := h; exact ⟨r, h1, hq r h2⟩
theorem WC.mono {E : Env} {k : FuncId} {args : List AV} {S : St} {Q Q' : R → Prop} (h : WC E k args S Q) (hq : ∀ r, Q r → Q' r) : WC E k args S Q' := by
  obtain ⟨r, h1, h2⟩ := h; exact ⟨r, h1, hq r h2⟩
/-- A loop: its body, and then the loop. -/
theorem WX_loop {E : Env} {n : Nat} {c : Code} {f : Fr} {S : St} {Q : O → Prop} (h : WX E n c f S (thenW (fun f' S' => WX E n (.loop c) f' S' Q) Q)) : WX E n (.loop c) f S Q := by
  obtain ⟨r, ⟨m0, hm⟩, hq⟩ := h
  have up : ∀ {r : O}, (∃ m0, ∀ m, m0 ≤ m → stepC E (drawnNew E) (run E (drawnNew E) m) (ckN E m) n (.loop c) f S = r) → RT E n (.loop c) f S r := fun ⟨m0, h⟩ => ⟨m0 + 1, fun m hm => by
    obtain ⟨k, rfl⟩ : ∃ k, m = k + 1 := ⟨m - 1, by omega⟩
    rw [run_succ]; exact h k (by omega)⟩
  have other : thenW (fun f' S' => WX E n (.loop c) f' S' Q) Q r = Q r → (∀ m, m0 ≤ m → stepC E (drawnNew E) (run E (drawnNew E) m) (ckN E m) n (.loop c) f S = r) → WX E n (.loop c) f S Q := fun e he => ⟨r, up ⟨m0, he⟩, by rw [← e]; exact hq⟩
  cases r with
  | fail => exact other rfl (fun m hmm => by unfold stepC; simp only [hm m hmm])
  | out e f' S' =>
    cases e with
    | normal =>
      obtain ⟨r, ⟨m1, h1⟩, hq⟩ := hq
      exact ⟨r, up ⟨max m0 m1, fun m hmm => by
        unfold stepC; simp only
        rw [hm m (by omega)]; exact h1 m (by omega)⟩, hq⟩
    | exit id => exact other rfl (fun m hmm => by unfold stepC; simp only [hm m hmm])
    | ret => exact other rfl (fun m hmm => by unfold stepC; simp only [hm m hmm])
    | pan a => exact other rfl (fun m hmm => by unfold stepC; simp only [hm m hmm])
/-- What a function without deferred calls answers. -/
def giveW (E : Env) (rs : List ResultVar) (f : Fr) (S : St) (Q : R → Prop) : Prop := match f.dfr, resultsA E f.tmps S rs with
  | [], some l => Q (.ret (tupA l) S)
  | _, _ => False
def finW (E : Env) (rs : List ResultVar) (Q : R → Prop) : O → Prop
  | .out .normal f S => giveW E rs f S Q
  | .out .ret f S => giveW E rs f S Q
  | .out (.pan a) f S => f.dfr = [] ∧ Q (.pan a S)
  | _ => False
theorem WC_ext {E : Env} {k : FuncId} {args : List AV} {S : St} {Q : R → Prop} (fn : Func) (hI : E.I k = none) (hF : E.F k = some fn) (hb : fn.body.isSome = true) (hl : args.length ≤ fn.ntmps)
    (h : WX E fn.ntmps (fn.body.getD .skip) ⟨initT args 0, []⟩ S (finW E fn.results.toList Q)) : WC E k args S Q := by
  obtain ⟨r, ⟨m0, hm⟩, hq⟩ := h
  obtain ⟨c, hc⟩ := Option.isSome_iff_exists.1 hb
  have key : ∀ m, m0 ≤ m → ckN E m k args S = endA E (run E (drawnNew E) m) fn r := fun m hmm => by
    show stepF E (run E (drawnNew E) m) k args S = _
    unfold stepF
    rw [hI, hF]
    simp only [hc, if_pos hl]
    have := hm m hmm
    rw [hc] at this
    rw [show run E (drawnNew E) m fn.ntmps c ⟨initT args 0, []⟩ S = r from this]
  have give : ∀ (f : Fr) (S' : St), giveW E fn.results.toList f S' Q → ∃ l, f.dfr = [] ∧ resultsA E f.tmps S' fn.results.toList = some l ∧ Q (.ret (tupA l) S') := fun f S' hg => by
    unfold giveW at hg
    split at hg
    · rename_i l h1 h2; exact ⟨l, h1, h2, hg⟩
    · exact hg.elim
  cases r with
  | fail => exact hq.elim
  | out e f' S' =>
    cases e with
    | normal =>
      obtain ⟨l, h1, h2, h3⟩ := give f' S' hq
      exact ⟨_, ⟨m0, fun m hmm => by rw [key m hmm]; simp only [endA, h1, giveA, h2]⟩, h3⟩
    | ret =>
      obtain ⟨l, h1, h2, h3⟩ := give f' S' hq
      exact ⟨_, ⟨m0, fun m hmm => by rw [key m hmm]; simp only [endA, h1, giveA, h2]⟩, h3⟩
    | pan a => exact ⟨_, ⟨m0, fun m hmm => by rw [key m hmm]; simp only [endA, hq.1]⟩, hq.2⟩
    | exit id => exact hq.elim
theorem WC_fn {E : Env} {k : FuncId} {args : List AV} {S : St} {Q : R → Prop} (fn : Func) (hI : E.I k = none) (hF : E.F k = some fn) (hb : fn.body.isSome = true) (hl : args.length ≤ fn.ntmps)
    (h : W E fn.ntmps (fn.body.getD .skip) ⟨initT args 0, []⟩ S (finW E fn.results.toList Q)) : WC E k args S Q := WC_ext fn hI hF hb hl (W_sound h)
theorem WC_known {E : Env} {k : FuncId} {args : List AV} {S : St} {Q : R → Prop} {g : List AV → St → R} (hI : E.I k = some g) (h : Q (g args S)) : WC E k args S Q :=
  ⟨_, ⟨0, fun m _ => by show stepF E (run E (drawnNew E) m) k args S = _; unfold stepF; rw [hI]⟩, h⟩
/-- Code that is known to end so: the model's. -/
theorem codeW {E : Env} (hE : E.Ok) (hI : IntrOk E) (hmix : E.P.follows .mixedOrders = true) (hG : E.G = fun _ => none) {n t : Nat} {c : Code} {f : T AV} {S : St}
    (h : W E n c ⟨f, []⟩ S (fun r => ∃ f' S', r = .out .ret ⟨f', []⟩ S' ∧ f'.get t = some (.v (.bool true)))) {Q : Exit → Act → World → Prop} {act : Act} {γ : Gh} {base : Nat} {w0 w : World} (hS : SR base w0 γ S w) (hf : FR γ w f act.tmps) (hn : act.tmps.size = n) (hd : act.defers = [])
    (hQ : ∀ act' w', act'.tmps.size = n → act'.defers = [] → act'.tmps[t]? = some (.bool true) → Below base w0 w' → Q .ret act' w') : c.wp E.P Q act w := by
  obtain ⟨r, ⟨m0, hm⟩, f', S', rfl, ht⟩ := W_sound h
  refine (run_sound hE hI (drawnNew_ok hE hmix) m0).code base w0 Q n c γ S w ⟨f, []⟩ act hS ⟨hf, hn, by rw [hd]; trivial⟩ (by rw [hG]; exact GR.none) ?_
  rw [hm m0 (Nat.le_refl _)]
  intro γ' act' w' h1 h2 h3
  show Q .ret act' w'
  obtain ⟨k1, k2⟩ := h3.tmps t _ ht
  have hdd := h3.dfr
  have hd' : act'.defers = [] := by
    cases hx : act'.defers with
    | nil => rfl
    | cons a r => rw [hx] at hdd; exact hdd.elim
  refine hQ act' w' h3.size hd' ?_ h1.below
  have e1 : act'.tmps[t]? = some (act'.tmps[t]) := Array.getElem?_eq_getElem k1
  have e2 : act'.tmps.getD t undef = act'.tmps[t] := by simp [k1]
  rw [e1]
  rw [e2] at k2
  generalize act'.tmps[t] = z at k2
  cases k2
  rfl
/- The same, for simp: no continuation is a function that simp would look into. -/
def seqQ (E : Env) (n : Nat) (b : Code) (Q : O → Prop) : O → Prop := thenW (fun f S => W E n b f S Q) Q
def execL (E : Env) (n : Nat) (ops : Array Oper) (o : Oper) (l : List Oper) (f : Fr) (S : St) (Q : O → Prop) : Option Bool → OR → Prop
  | none, _ => False
  | some false, _ => putW n f o.dst (.tup []) S (fun f' S' => WL E n ops l f' S' Q)
  | some true, x => execW E n o f (fun f' S' => WL E n ops l f' S' Q) Q x
def execR (E : Env) (n : Nat) (ops : Array Oper) (o : Oper) (l : List RS) (f : Fr) (S : St) (Q : O → Prop) : Option Bool → OR → Prop
  | none, _ => False
  | some false, _ => putW n f o.dst (.tup []) S (fun f' S' => WR E n ops l f' S' Q)
  | some true, x => execW E n o f (fun f' S' => WR E n ops l f' S' Q) Q x
def putL (E : Env) (n : Nat) (ops : Array Oper) (l : List Oper) (dst : Option Tmp) (f : Fr) (a : AV) (S : St) (Q : O → Prop) : Prop := putW n f dst a S (fun f' S' => WL E n ops l f' S' Q)
def putRW (E : Env) (n : Nat) (ops : Array Oper) (l : List RS) (dst : Option Tmp) (f : Fr) (a : AV) (S : St) (Q : O → Prop) : Prop := putW n f dst a S (fun f' S' => WR E n ops l f' S' Q)
def retL (E : Env) (n : Nat) (ops : Array Oper) (l : List Oper) (dst : Option Tmp) (f : Fr) (Q : O → Prop) : R → Prop := retW n f dst (fun f' S' => WL E n ops l f' S' Q) Q
def retRW (E : Env) (n : Nat) (ops : Array Oper) (l : List RS) (dst : Option Tmp) (f : Fr) (Q : O → Prop) : R → Prop := retW n f dst (fun f' S' => WR E n ops l f' S' Q) Q
def fixQ (ops : Array Oper) (f : Fr) (Q : O → Prop) : O → Prop := fun r => Q (fixX ⟨eraseT ops.toList f.tmps, f.dfr⟩ r)
section
variable {E : Env} {n : Nat} {f : Fr} {S : St} {Q : O → Prop} {ops : Array Oper} {t : T AV} {ds : List Dfr}
theorem W_skip : W E n .skip f S Q = Q (.out .normal f S) := by unfold W; rfl
theorem W_label {l : Nat} : W E n (.label l) f S Q = Q (.out .normal f S) := by unfold W; rfl
theorem W_region {id : Nat} : W E n (.region id ops false) f S Q = WL E n ops ops.toList f S Q := by unfold W; rfl
theorem W_drawn {id : Nat} : W E n (.region id ops true) f S Q = WD E n ops f S Q := by unfold W; rfl
theorem W_seq {a b : Code} : W E n (.seq a b) f S Q = W E n a f S (seqQ E n b Q) := by show W E n (.seq a b) f S Q = W E n a f S (thenW (fun f S => W E n b f S Q) Q); conv => lhs; unfold W
theorem W_cond {c : Operand} {x y : Code} : W E n (.cond c x y) f S Q = condW (evalO E.G f.tmps c) (W E n x f S Q) (W E n y f S Q) := by conv => lhs; unfold W
theorem W_block {id : Nat} {c : Code} : W E n (.block id c) f S Q = W E n c f S (blockW id Q) := by conv => lhs; unfold W
theorem W_loop {c : Code} : W E n (.loop c) f S Q = WX E n (.loop c) f S Q := by unfold W; rfl
theorem W_exit {id : Nat} : W E n (.exit id) f S Q = Q (.out (.exit id) f S) := by unfold W; rfl
theorem W_ret : W E n .ret f S Q = Q (.out .ret f S) := by unfold W; rfl
theorem seqQ_normal {b : Code} : seqQ E n b Q (.out .normal f S) = W E n b f S Q := rfl
theorem seqQ_exit {b : Code} {id : Nat} : seqQ E n b Q (.out (.exit id) f S) = Q (.out (.exit id) f S) := rfl
theorem seqQ_ret {b : Code} : seqQ E n b Q (.out .ret f S) = Q (.out .ret f S) := rfl
theorem seqQ_pan {b : Code} {a : AV} : seqQ E n b Q (.out (.pan a) f S) = Q (.out (.pan a) f S) := rfl
theorem blockW_normal {id : Nat} : blockW id Q (.out .normal f S) = Q (.out .normal f S) := rfl
theorem blockW_ret {id : Nat} : blockW id Q (.out .ret f S) = Q (.out .ret f S) := rfl
theorem blockW_pan {id : Nat} {a : AV} : blockW id Q (.out (.pan a) f S) = Q (.out (.pan a) f S) := rfl
theorem blockW_exit {id id' : Nat} : blockW id Q (.out (.exit id') f S) = if id' = id then Q (.out .normal f S) else Q (.out (.exit id') f S) := rfl
theorem WL_nil : WL E n ops [] f S Q = Q (.out .normal f S) := rfl
theorem WL_cons {o : Oper} {l : List Oper} : WL E n ops (o :: l) f S Q = execL E n ops o l f S Q (wantedA ops o f.tmps) (exec1 E f.tmps S o) := by
  show stepW E n ops o f S (fun f' S' => WL E n ops l f' S' Q) Q = _
  unfold stepW
  cases wantedA ops o f.tmps with
  | none => rfl
  | some b => cases b <;> rfl
theorem execL_no {o : Oper} {l : List Oper} {x : OR} : execL E n ops o l f S Q (some false) x = putL E n ops l o.dst f (.tup []) S Q := by cases x <;> rfl
theorem execL_val {o : Oper} {l : List Oper} {a : AV} {S' : St} : execL E n ops o l f S Q (some true) (.val a S') = putL E n ops l o.dst f a S' Q := rfl
theorem execL_skip {o : Oper} {l : List Oper} {S' : St} : execL E n ops o l f S Q (some true) (.skip S') = putL E n ops l o.dst f (.tup []) S' Q := rfl
theorem execL_enter {o : Oper} {l : List Oper} {k : FuncId} {args : List AV} {S' : St} : execL E n ops o l f S Q (some true) (.enter k args S') = WC E k args S' (retL E n ops l o.dst f Q) := rfl
theorem execL_dfr {o : Oper} {l : List Oper} {fn : Fn} {caps args : List AV} {S' : St} : execL E n ops o l f S Q (some true) (.dfr fn caps args S') = putL E n ops l o.dst { f with dfr := ⟨fn, caps, args⟩ :: f.dfr } (.tup []) S' Q := rfl
theorem execL_pan {o : Oper} {l : List Oper} {a : AV} {S' : St} : execL E n ops o l f S Q (some true) (.pan a S') = Q (.out (.pan a) f S') := rfl
theorem putL_none {l : List Oper} {a : AV} : putL E n ops l none f a S Q = WL E n ops l f S Q := rfl
theorem putL_some {l : List Oper} {d : Nat} {a : AV} : putL E n ops l (some d) ⟨t, ds⟩ a S Q = (d < n ∧ WL E n ops l ⟨t.set d (some a), ds⟩ S Q) := rfl
theorem retL_ret {l : List Oper} {dst : Option Tmp} {a : AV} : retL E n ops l dst f Q (.ret a S) = putL E n ops l dst f a S Q := rfl
theorem retL_pan {l : List Oper} {dst : Option Tmp} {a : AV} : retL E n ops l dst f Q (.pan a S) = Q (.out (.pan a) f S) := rfl
theorem WR_nil : WR E n ops [] f S Q = Q (.out .normal f S) := rfl
theorem WR_op {o : Oper} {l : List RS} : WR E n ops (.op o :: l) f S Q = execR E n ops o l f S Q (wantedA ops o f.tmps) (exec1 E f.tmps S o) := by
  show stepW E n ops o f S (fun f' S' => WR E n ops l f' S' Q) Q = _
  unfold stepW
  cases wantedA ops o f.tmps with
  | none => rfl
  | some b => cases b <;> rfl
theorem WR_re {o : Oper} {l : List RS} : WR E n ops (.re o :: l) f S Q = (againO E ops o f.tmps S = true ∧ WR E n ops l f S Q) := rfl
theorem execR_no {o : Oper} {l : List RS} {x : OR} : execR E n ops o l f S Q (some false) x = putRW E n ops l o.dst f (.tup []) S Q := by cases x <;> rfl
theorem execR_val {o : Oper} {l : List RS} {a : AV} {S' : St} : execR E n ops o l f S Q (some true) (.val a S') = putRW E n ops l o.dst f a S' Q := rfl
theorem execR_skip {o : Oper} {l : List RS} {S' : St} : execR E n ops o l f S Q (some true) (.skip S') = putRW E n ops l o.dst f (.tup []) S' Q := rfl
theorem execR_enter {o : Oper} {l : List RS} {k : FuncId} {args : List AV} {S' : St} : execR E n ops o l f S Q (some true) (.enter k args S') = WC E k args S' (retRW E n ops l o.dst f Q) := rfl
theorem execR_pan {o : Oper} {l : List RS} {a : AV} {S' : St} : execR E n ops o l f S Q (some true) (.pan a S') = Q (.out (.pan a) f S') := rfl
theorem putRW_none {l : List RS} {a : AV} : putRW E n ops l none f a S Q = WR E n ops l f S Q := rfl
theorem putRW_some {l : List RS} {d : Nat} {a : AV} : putRW E n ops l (some d) ⟨t, ds⟩ a S Q = (d < n ∧ WR E n ops l ⟨t.set d (some a), ds⟩ S Q) := rfl
theorem retRW_ret {l : List RS} {dst : Option Tmp} {a : AV} : retRW E n ops l dst f Q (.ret a S) = putRW E n ops l dst f a S Q := rfl
theorem retRW_pan {l : List RS} {dst : Option Tmp} {a : AV} : retRW E n ops l dst f Q (.pan a S) = Q (.out (.pan a) f S) := rfl
theorem condW_t {x y : Prop} : condW (some (.v (.bool true))) x y = x := rfl
theorem condW_f {x y : Prop} : condW (some (.v (.bool false))) x y = y := rfl
theorem fixQ_normal {g : Fr} : fixQ ops g Q (.out .normal f S) = Q (.out .normal f S) := rfl
theorem fixQ_pan {g : Fr} {a : AV} : fixQ ops g Q (.out (.pan a) f S) = Q (.out (.pan a) ⟨eraseT ops.toList g.tmps, g.dfr⟩ S) := rfl
/-- A drawn region, by one order: numbers of operations, true, or a look again, false. -/
theorem WD_by (l : List (Nat × Bool)) (h2 : static ops (bm ops.toList []) (eager ops (bm ops.toList []) ops.size (List.range ops.size) 0) = true)
    (h3 : stepsD ops (bm ops.toList []) (eager ops (bm ops.toList []) ops.size (List.range ops.size) 0) [] = some (rsOf ops l)) (h : WR E n ops (rsOf ops l) f S (fixQ ops f Q)) : WD E n ops f S Q := WD_steps h3 h2 h
theorem WD_byFl (l : List (Nat × Bool)) {x : FlP} (h1 : flFind E.P ops = some x) (h2 : allSteps ops x = some (rsOf ops l)) (h3 : x.d < n) (h : WR E n ops (rsOf ops l) ⟨f.tmps.set x.d none, f.dfr⟩ S (fixQ ops f Q)) : WD E n ops f S Q := WD_fl h1 h2 h3 h
theorem WD_two (l1 l2 : List (Nat × Bool)) (h0 : flFind E.P ops = none) (h1 : mkFind E.P ops = none) (h2 : mk2Find E.P ops = none) (ht : isTwo ops = true)
    (h3 : stepsD ops (bm ops.toList []) (eager ops (bm ops.toList []) ops.size (List.range ops.size) 0) [] = some (rsOf ops l1)) (h4 : stepsD ops (bm ops.toList []) (swapE (eager ops (bm ops.toList []) ops.size (List.range ops.size) 0)) [] = some (rsOf ops l2))
    (h : WR E n ops (rsOf ops l1) f S (fun r => ∃ f' S', r = .out .normal f' S' ∧ WR E n ops (rsOf ops l2) f S (fun r2 => r2 = .out .normal f' S') ∧ Q (.out .normal f' S'))) : WD E n ops f S Q := by
  obtain ⟨r, ⟨m0, hm⟩, hne, f', S', rfl, hw2, hq⟩ := WR_sound h
  obtain ⟨r2, ⟨m2, hm2⟩, hne2, rfl⟩ := WR_sound hw2
  refine ⟨_, ⟨max m0 m2, fun m hmm => ?_⟩, hq⟩
  unfold drawnNew
  rw [h0]
  simp only [h1, h2, ht, if_true]
  have k1 : drun E (ckN E m) n ops (bm ops.toList []) ⟨eraseT ops.toList f.tmps, f.dfr⟩ (eager ops (bm ops.toList []) ops.size (List.range ops.size) 0) f S [] = .out .normal f' S' := by
    rcases drun_steps (E := E) (ck := ckN E m) (n := n) (fb := ⟨eraseT ops.toList f.tmps, f.dfr⟩) _ _ f S [] h3 (fun _ h => absurd h List.not_mem_nil) with h | h
    · rw [hm m (by omega)] at h; cases h
    · rw [h, hm m (by omega)]; rfl
  have k2 : drun E (ckN E m) n ops (bm ops.toList []) ⟨eraseT ops.toList f.tmps, f.dfr⟩ (swapE (eager ops (bm ops.toList []) ops.size (List.range ops.size) 0)) f S [] = .out .normal f' S' := by
    rcases drun_steps (E := E) (ck := ckN E m) (n := n) (fb := ⟨eraseT ops.toList f.tmps, f.dfr⟩) _ _ f S [] h4 (fun _ h => absurd h List.not_mem_nil) with h | h
    · rw [hm2 m (by omega)] at h; cases h
    · rw [h, hm2 m (by omega)]; rfl
  unfold drawnTwo
  simp only
  rw [k1, k2, if_pos rfl]
theorem rsOf_nil : rsOf ops [] = [] := rfl
theorem finW_ret {rs : List ResultVar} {Q : R → Prop} : finW E rs Q (.out .ret f S) = giveW E rs f S Q := rfl
theorem finW_normal {rs : List ResultVar} {Q : R → Prop} : finW E rs Q (.out .normal f S) = giveW E rs f S Q := rfl
theorem finW_pan {rs : List ResultVar} {Q : R → Prop} {a : AV} : finW E rs Q (.out (.pan a) ⟨t, []⟩ S) = Q (.pan a S) := by show (_ ∧ _) = _; simp
end
end Go.Ax
noncomputable section
namespace Go.Ax
open Go.RowKit
set_option linter.unusedVariables false
set_option linter.unusedSimpArgs false
/-- The names below a number. -/
def Gh.below (γ : Gh) (n : Nat) : Gh := { γ with loc := fun i => if i < n then γ.loc i else none }
theorem below_loc {γ : Gh} {n id : Nat} {x : Nat × Nat} (h : γ.loc id = some x) (hid : id < n) : (γ.below n).loc id = some x := by
  show (if id < n then γ.loc id else none) = some x
  rw [if_pos hid]; exact h
/-- A value that was there by old names is there by these alone. -/
theorem VR.restrict {γ γ' : Gh} {w w' : World} {n : Nat} (hf : ∀ id, n ≤ id → γ.loc id = none) {a : AV} {x' : Value} (h' : VR γ' w' a x') : ∀ {x : Value}, VR γ w a x → VR (γ'.below n) w' a x' := by
  have lt : ∀ {id y}, γ.loc id = some y → id < n := fun {id y} h => by
    by_cases hq : id < n
    · exact hq
    · rw [hf id (by omega)] at h; cases h
  induction h' with
  | v x h => intro _ _; exact .v x h
  | nilp => intro _ _; exact .nilp
  | ptr id off b s h =>
    intro x hx
    cases hx with
    | ptr _ _ b2 s2 h2 => exact .ptr id off b s (below_loc h (lt h2))
  | ep cs b o c h h1 hr ih =>
    intro x hx
    cases hx with
    | ep _ b2 o2 c2 k1 k2 k3 => exact .ep cs b o c h h1 (fun k hk => ih k hk (k3 k hk))
  | nils => intro _ _; exact .nils
  | sl tok off sz es b o cap c hsz hes h1 h hr ht hf2 hc hb ih =>
    intro x hx
    cases hx with
    | sl _ _ _ _ b2 o2 cap2 c2 k1 k2 k3 k4 k5 k6 k7 k8 k9 =>
      refine .sl tok off sz es b o cap c hsz hes h1 h (fun k hk => ih k hk (k5 k hk)) (fun h2 => ?_) hf2 hc hb
      obtain ⟨s, q1, q2⟩ := ht h2
      obtain ⟨s2, q3, q4⟩ := k6 h2
      exact ⟨s, below_loc q1 (lt q3), q2⟩
  | nilm => intro _ _; exact .nilm
  | map id b s h =>
    intro x hx
    cases hx with
    | map _ b2 s2 h2 => exact .map id b s (below_loc h (lt h2))
  | fn f first caps x y hx hy h1 h2 ih1 ih2 =>
    intro z hz
    cases hz with
    | fn _ _ _ x2 y2 k1 k2 k3 k4 => exact .fn f first caps x y hx hy (fun k hk hk' => ih1 k hk hk' (k3 k hk (by omega))) (fun k hk hk' => ih2 k hk hk' (k4 k hk (by omega)))
  | iface t a x h ih =>
    intro z hz
    cases hz with
    | iface _ _ x2 h2 => exact .iface t a x (ih h2)
  | agg cs x hx h1 h ih =>
    intro z hz
    cases hz with
    | agg _ x2 k1 k2 k3 => exact .agg cs x hx h1 (fun k hk hk' => ih k hk hk' (k3 k hk (by omega)))
  | tup vs x hx h ih =>
    intro z hz
    cases hz with
    | tup _ x2 k1 k2 => exact .tup vs x hx (fun k hk hk' => ih k hk hk' (k2 k hk (by omega)))
  | bs id off n2 sz b s cap h hc hsz hb =>
    intro z hz
    cases hz with
    | bs _ _ _ _ b2 s2 cap2 h2 _ _ _ => exact .bs id off n2 sz b s cap (below_loc h (lt h2)) hc hsz hb
/-- A value that says nothing of names of the run's own. -/
def AV.old (n : Nat) : AV → Prop
  | .v _ => True
  | _ => False
theorem SR.forget {base : Nat} {w0 w w' : World} {γ γ' : Gh} {S S' : St} (h : SR base w0 γ S w) (h' : SR base w0 γ' S' w') (x : Ext γ S w γ' S' w') (hk : ∀ id, id < S.next → S'.mem.get id = S.mem.get id) : SR base w0 (γ'.below S.next) S w' ∧ Ext γ S w (γ'.below S.next) S w' := by
  have lt : ∀ {id y}, γ.loc id = some y → id < S.next := fun {id y} hl => by
    by_cases hq : id < S.next
    · exact hq
    · rw [(h.fresh id (by omega)).1] at hl; cases hl
  have ltm : ∀ {id c}, S.mem.get id = some c → id < S.next := fun {id c} hm => by
    by_cases hq : id < S.next
    · exact hq
    · rw [(h.fresh id (by omega)).2] at hm; cases hm
  have hf : ∀ id, S.next ≤ id → γ.loc id = none := fun id hid => (h.fresh id hid).1
  have ev : Ev γ w (γ'.below S.next) w' := ⟨fun id y hl => below_loc (x.ev.loc id y hl) (lt hl), x.ev.im, x.ev.cell, x.ev.blk⟩
  have bl : ∀ {id y}, (γ'.below S.next).loc id = some y → γ'.loc id = some y ∧ id < S.next := fun {id y} hl => by
    have hl : (if id < S.next then γ'.loc id else none) = some y := hl
    split at hl
    · exact ⟨hl, by assumption⟩
    · cases hl
  refine ⟨⟨h'.below, h'.hbase, h'.imc, fun id hid => ⟨?_, (h.fresh id hid).2⟩, h.pos, fun id b s hl => h'.inb id b s (bl hl).1, fun id c hm => ?_, fun id id' c c' b s s' e1 e2 l1 l2 => ?_⟩,
    ⟨ev, Nat.le_refl _, fun id hid => ?_, x.size, fun id c b s hm hl => ?_, fun b hb hn => x.frame b hb hn⟩⟩
  · show (if id < S.next then γ'.loc id else none) = none
    rw [if_neg (by omega)]
  · obtain ⟨b0, s0, m1, m2, m3⟩ := h.live id c hm
    have hm' : S'.mem.get id = some c := by rw [hk id (ltm hm)]; exact hm
    obtain ⟨b, s, l1, l2, l3⟩ := h'.live id c hm'
    refine ⟨b, s, below_loc l1 (ltm hm), l2, ?_⟩
    cases c with
    | box cs =>
      obtain ⟨h0, h1, h2, arr, T, xx, yy, ha, hx, hr⟩ := l3
      obtain ⟨_, _, _, arr0, T0, x0, y0, ha0, hx0, hr0⟩ := m3
      exact ⟨h0, h1, h2, arr, T, xx, yy, ha, hx, hr.1, fun k hk1 hk2 => (hr.2 k hk1 hk2).restrict hf (hr0.2 k hk1 (by rw [hr0.1]; exact hk1))⟩
    | tip m => exact l3
    | mp es =>
      obtain ⟨h0, ms, clock, ha, hl, hv⟩ := l3
      obtain ⟨_, ms0, clock0, ha0, hl0, hv0⟩ := m3
      exact ⟨h0, ms, clock, ha, hl, fun k hk1 hk2 => ⟨(hv k hk1 hk2).1, (hv k hk1 hk2).2.restrict hf (hv0 k hk1 (by omega)).2⟩⟩
  · have m1 := ltm e1; have m2 := ltm e2
    exact h'.inj id id' c c' b s s' (by rw [hk id m1]; exact e1) (by rw [hk id' m2]; exact e2) (bl l1).1 (bl l2).1
  · show (if id < S.next then γ'.loc id else none) = γ.loc id
    rw [if_pos hid]; exact x.same id hid
  · exact x.liv id c b s (by rw [hk id (ltm hm)]; exact hm) (bl hl).1
end Go.Ax
noncomputable section
namespace Go.Ax
open Go.RowKit Go.Proofs
set_option linter.unusedVariables false
set_option linter.unusedSimpArgs false
def growI (sz : Nat) (args : List AV) (S : St) : R := match args with
  | [.nils, .v (.int .i64 n)] => if n = 0 then .ret .nils S else if 0 < n ∧ n ≤ 3000 ∧ 0 < sz then .ret (.sl S.next 0 sz []) ⟨S.next + 1, S.mem.set S.next (some (.tip 0))⟩ else .fail
  | _ => .fail
theorem growI_ok {P : Program} {k : FuncId} {sz e : Nat} (h0 : ∀ w, Calls P k #[.slice none 0 0, .int .i64 0] w fun x w' => x = .returned (.slice none 0 0) ∧ w' = w)
    (h1 : ∀ (n : Nat) (w : World), 0 < n → n ≤ 3000 → Calls P k #[.slice none 0 0, .int .i64 n] w fun x w' => ∃ c, x = .returned (.slice (some ⟨w.heap.size, 0, none⟩) 0 c) ∧ w'.ownsRow w.heap.size e sz (.slice (some ⟨w.heap.size, 0, none⟩) 0 c) 0 [] ∧ Below w.heap.size w w')
    (base : Nat) (w0 : World) (args : List AV) (S : St) (hne : growI sz args S ≠ .fail) (γ : Gh) (w : World) (vs : List Value) (hS : SR base w0 γ S w) (hv : VRL γ w args vs) : Calls P k vs.toArray w (RetOk base w0 γ S w (growI sz args S)) := by
  generalize hr : growI sz args S = r at hne ⊢
  unfold growI at hr
  split at hr
  · rename_i n
    obtain ⟨x, y, rfl, hx, hy⟩ := hv.two
    cases hx; cases hy
    split at hr
    · rename_i hn
      subst hn; subst hr
      refine (h0 w).mono fun x w' ⟨hx, hw⟩ => ?_
      subst hx; subst hw
      exact ⟨γ, _, hS, .refl _ _ _, .nils, rfl⟩
    · split at hr
      · rename_i hn
        obtain ⟨n1, n2, n3⟩ := hn
        subst hr
        have := h1 n.toNat w (by omega) (by omega)
        rw [show ((n.toNat : Nat) : Int) = n by omega] at this
        refine this.mono fun x w' ⟨c, hx, hown, hb⟩ => ?_
        subst hx
        obtain ⟨k1, k2⟩ := hS.after hb
        rcases hown.2 with ⟨hnil, _⟩ | ⟨g, cap, cur, hg, hlo, hcur, hc1, hc2, hc3, hc4⟩
        · cases hnil
        · injection hg with hg1 hg2 hg3
          injection hg1 with hg1
          injection hg1 with hg1
          subst hg3; subst hg1
          have hlt : w.heap.size < w'.heap.size := (Array.getElem?_eq_some_iff.1 hcur).1
          have hf := k1.fresh S.next (Nat.le_refl _)
          have hnew : ∀ id c s', S.mem.get id = some c → γ.loc id ≠ some (w.heap.size, s') := fun id c s' hm hl => by
            have := hS.inb id _ _ hl; omega
          obtain ⟨j1, j2⟩ := k1.name w.heap.size 0 (.tip 0) hS.hbase hlt ⟨cur, e, hcur, fun o ho => by have := imc_lt hS ho; omega, Nat.zero_le _⟩ hnew
          have hx2 := k2.newName (s := 0) (c := .tip 0) hf.1 hf.2 rfl
          refine ⟨γ.withLoc S.next w.heap.size 0, _, j1, hx2, ?_, rfl⟩
          refine .sl S.next 0 sz [] w.heap.size 0 c (fun _ => undef) n3 (fun _ h => absurd h List.not_mem_nil) (fun _ h => absurd h List.not_mem_nil) (fun k h => absurd h (Nat.not_lt_zero k)) (fun k h => absurd h (Nat.not_lt_zero k)) (fun _ => ⟨0, ?_, rfl⟩) (fun h => ?_) (Nat.zero_le _) ⟨cur, e, (0, 0), hcur, by omega⟩
          · show (if S.next = S.next then _ else _) = _; rw [if_pos rfl]
          · have := hS.pos; omega
      · exact absurd hr.symm hne
  · exact absurd hr.symm hne
theorem infoDecl : (Tryz.prog.info? 191).map (fun i => (i.zero, i.size, i.bytes)) = some (some (.agg #[.string ⟨#[]⟩, .int .i64 0, .bool false, .bool false, .string ⟨#[]⟩, .bool false]), 6, 56) := by kernel_rfl
theorem underDecls : Tryz.prog.underlying 60 = some (.slice 191) := by kernel_rfl
theorem infoG_parts {P : Program} {t : TypeId} {z : Option Value} {s b : Nat} (h : (P.info? t).map (fun i => (i.zero, i.size, i.bytes)) = some (z, s, b)) : ∃ i, P.info? t = some i ∧ i.zero = z ∧ i.size = s ∧ i.bytes = b := by
  cases hi : P.info? t with
  | none => rw [hi] at h; cases h
  | some i =>
    rw [hi] at h
    simp only [Option.map_some, Option.some.injEq, Prod.mk.injEq] at h
    exact ⟨i, rfl, h.1, h.2.1, h.2.2⟩
set_option maxRecDepth 100000 in
theorem grow_none (w : World) : Calls Tryz.prog 233 #[.slice none 0 0, .int .i64 0] w fun e w' => e = .returned (.slice none 0 0) ∧ w' = w := by
  go_enter Tryz.func233, Tryz.ntmps233
  go_wp2_with fail
  go_ret
  exact ⟨rfl, rfl⟩
set_option maxRecDepth 100000 in
theorem grow_some (n : Nat) (w : World) (h0 : 0 < n) (hn : n ≤ 3000) :
    Calls Tryz.prog 233 #[.slice none 0 0, .int .i64 n] w fun e w' => ∃ c, e = .returned (.slice (some ⟨w.heap.size, 0, none⟩) 0 c) ∧ w'.ownsRow w.heap.size 191 6 (.slice (some ⟨w.heap.size, 0, none⟩) 0 c) 0 [] ∧ Below w.heap.size w w' := by
  obtain ⟨i0, hi, hz0, hz1, hz2⟩ := infoG_parts infoDecl
  have hrz : ∀ ty, (Builtin.append_ #[60, 3] ty #[.slice none 0 0, .int .i64 ((n : Nat) : Int)]).run Tryz.prog w =
      .ok (.slice (some ⟨w.heap.size, 0, none⟩) n (grownCap w n 0 191)) (w.drew.alloc (.cells (#[] ++ Builtin.zeroCells (Value.cells (.agg #[.string ⟨#[]⟩, .int .i64 0, .bool false, .bool false, .string ⟨#[]⟩, .bool false])) n ++ Builtin.zeroCells (Value.cells (.agg #[.string ⟨#[]⟩, .int .i64 0, .bool false, .bool false, .string ⟨#[]⟩, .bool false])) (grownCap w n 0 191 - n)) 191)) := fun ty => by
    have h := Lib.run_append_grow_zeros w 60 3 ty 191 i0 _ .i64 .i64 underDecls Tryz.underlying3 hi hz0 none 0 0 [] (by rw [hz1]; exact run_firstCells_none w.drew 6 0 0 0) n h0 (by omega) (by omega) (by omega) (by rw [hz2]; omega)
      (growslice_fits (by omega) (by rw [hz2]; omega))
    simpa using h
  have hG1 := grownCap_ge w n 0 191
  have hG2 := grownCap_le_maxLen w n 0 191 (by unfold maxLen; omega)
  obtain ⟨G, hG⟩ : ∃ G, G = grownCap w n 0 191 := ⟨_, rfl⟩
  rw [← hG] at hrz hG1 hG2
  clear hG
  have h4 : ((n : Int) > 0) := by omega
  unfold maxLen at hG2
  go_enter Tryz.func233, Tryz.ntmps233
  go_wp2_with (at_builtin; refine Lib.wpList_append_run _ rfl _ _ _ _ rfl _ _ rfl rfl _ _ (hrz _) ?_)
  all_goals
    go_ret
    refine ⟨G, rfl, World.ownsRow_made w.drew _ G (Nat.le_refl _) (by unfold maxLen; omega) ?_, ((Below.refl _ _).drew).alloc (Nat.le_refl _) _⟩
    simp only [Array.size_append, size_zeroCells]
    simp [Value.cells]
    omega
theorem grow_I (base : Nat) (w0 : World) (args : List AV) (S : St) (hne : growI 6 args S ≠ .fail) (γ : Gh) (w : World) (vs : List Value) (hS : SR base w0 γ S w) (hv : VRL γ w args vs) : Calls Tryz.prog 233 vs.toArray w (RetOk base w0 γ S w (growI 6 args S)) :=
  growI_ok grow_none (fun n w h0 h1 => grow_some n w h0 h1) base w0 args S hne γ w vs hS hv
end Go.Ax
noncomputable section
namespace Go.Ax
open Go.RowKit Go.Proofs
set_option linter.unusedVariables false
set_option linter.unusedSimpArgs false
set_option maxRecDepth 100000
theorem infoDecl2 : (Tryz.prog.info? 277).map (fun i => (i.zero, i.size, i.bytes)) = some (some (.agg #[.int .i64 0, .int .i64 0, .int .i64 0, .bool false, .int .i64 0, .int .i64 0]), 6, 48) := by kernel_rfl
theorem underDecls2 : Tryz.prog.underlying 176 = some (.slice 277) := by kernel_rfl
set_option maxRecDepth 100000 in
theorem grow_none2 (w : World) : Calls Tryz.prog 210 #[.slice none 0 0, .int .i64 0] w fun e w' => e = .returned (.slice none 0 0) ∧ w' = w := by
  go_enter Tryz.func210, Tryz.ntmps210
  go_wp2_with fail
  go_ret
  exact ⟨rfl, rfl⟩
set_option maxRecDepth 100000 in
theorem grow_some2 (n : Nat) (w : World) (h0 : 0 < n) (hn : n ≤ 3000) :
    Calls Tryz.prog 210 #[.slice none 0 0, .int .i64 n] w fun e w' => ∃ c, e = .returned (.slice (some ⟨w.heap.size, 0, none⟩) 0 c) ∧ w'.ownsRow w.heap.size 277 6 (.slice (some ⟨w.heap.size, 0, none⟩) 0 c) 0 [] ∧ Below w.heap.size w w' := by
  obtain ⟨i0, hi, hz0, hz1, hz2⟩ := infoG_parts infoDecl2
  have hrz : ∀ ty, (Builtin.append_ #[176, 3] ty #[.slice none 0 0, .int .i64 ((n : Nat) : Int)]).run Tryz.prog w =
      .ok (.slice (some ⟨w.heap.size, 0, none⟩) n (grownCap w n 0 277)) (w.drew.alloc (.cells (#[] ++ Builtin.zeroCells (Value.cells (.agg #[.int .i64 0, .int .i64 0, .int .i64 0, .bool false, .int .i64 0, .int .i64 0])) n ++ Builtin.zeroCells (Value.cells (.agg #[.int .i64 0, .int .i64 0, .int .i64 0, .bool false, .int .i64 0, .int .i64 0])) (grownCap w n 0 277 - n)) 277)) := fun ty => by
    have h := Lib.run_append_grow_zeros w 176 3 ty 277 i0 _ .i64 .i64 underDecls2 Tryz.underlying3 hi hz0 none 0 0 [] (by rw [hz1]; exact run_firstCells_none w.drew 6 0 0 0) n h0 (by omega) (by omega) (by omega) (by rw [hz2]; omega)
      (growslice_fits (by omega) (by rw [hz2]; omega))
    simpa using h
  have hG1 := grownCap_ge w n 0 277
  have hG2 := grownCap_le_maxLen w n 0 277 (by unfold maxLen; omega)
  obtain ⟨G, hG⟩ : ∃ G, G = grownCap w n 0 277 := ⟨_, rfl⟩
  rw [← hG] at hrz hG1 hG2
  clear hG
  have h4 : ((n : Int) > 0) := by omega
  unfold maxLen at hG2
  go_enter Tryz.func210, Tryz.ntmps210
  go_wp2_with (at_builtin; refine Lib.wpList_append_run _ rfl _ _ _ _ rfl _ _ rfl rfl _ _ (hrz _) ?_)
  all_goals
    go_ret
    refine ⟨G, rfl, World.ownsRow_made w.drew _ G (Nat.le_refl _) (by unfold maxLen; omega) ?_, ((Below.refl _ _).drew).alloc (Nat.le_refl _) _⟩
    simp only [Array.size_append, size_zeroCells]
    simp [Value.cells]
    omega
theorem grow_I2 (base : Nat) (w0 : World) (args : List AV) (S : St) (hne : growI 6 args S ≠ .fail) (γ : Gh) (w : World) (vs : List Value) (hS : SR base w0 γ S w) (hv : VRL γ w args vs) : Calls Tryz.prog 210 vs.toArray w (RetOk base w0 γ S w (growI 6 args S)) :=
  growI_ok grow_none2 (fun n w h0 h1 => grow_some2 n w h0 h1) base w0 args S hne γ w vs hS hv
end Go.Ax
noncomputable section
namespace Go.Ax
open Go.RowKit Go.Proofs
set_option linter.unusedVariables false
set_option linter.unusedSimpArgs false
set_option maxRecDepth 100000
/-- What digits spell, behind what was spelt. -/
def numV : Nat → List UInt8 → Nat
  | a, [] => a
  | a, c :: r => numV (a * 10 + (c.toNat - 48)) r
def digB (b : UInt8) : Bool := 48 ≤ b.toNat && b.toNat ≤ 57
/-- strconv.ParseUint of digits. -/
def puI (args : List AV) : Option AV := match args with
  | [.v (.string s), .v (.int .i64 10), .v (.int .i64 64)] => if s.data.toList ≠ [] ∧ s.data.toList.all digB = true ∧ numV 0 s.data.toList < 18446744073709551616 ∧ s.size ≤ 9223372036854775806 then some (.tup [.v (.int .u64 (numV 0 s.data.toList)), .v .nilIface]) else none
  | _ => none
def rowM (t : Nat) : Nat := Bool.rec (Bool.rec (Bool.rec (Bool.rec (Bool.rec (Bool.rec 0 2 (Nat.beq t 87)) 2 (Nat.beq t 89)) 2 (Nat.beq t 170)) 1 (Nat.beq t 61)) 1 (Nat.beq t 86)) 1 (Nat.beq t 88)
def E1 : Env := { P := Tryz.prog, G := fun _ => none, F := fun k => match Tryz.prog.funcs[k]? with | some fn => if fn.body.isSome then some fn else none | none => none, I := fun k => Bool.rec (Bool.rec (Bool.rec none (some (growI 6)) (Nat.beq k 233)) (some (growI 6)) (Nat.beq k 210)) (some (plainI puI)) (Nat.beq k 223), M := rowM }
theorem e1_names : (Tryz.prog.funcs.toList.all fun fn => !(fn.name == "runtime.NumGoroutine")) = true := by kernel_rfl
theorem e1_ok : E1.Ok := ⟨fun k fn h => by
  simp only [E1] at h
  split at h
  · rename_i fn' hf
    split at h
    · rename_i hb
      injection h with h; subst h
      have hm : fn' ∈ Tryz.prog.funcs.toList := by
        have := Array.mem_of_getElem? hf
        simpa using this
      have := List.all_eq_true.1 e1_names fn' hm
      exact ⟨hf, by simpa using this, Option.isSome_iff_exists.1 hb⟩
    · cases h
  · cases h⟩
theorem numV_ge : ∀ (l : List UInt8) (a : Nat), a ≤ numV a l
  | [], a => Nat.le_refl _
  | c :: r, a => by
    have := numV_ge r (a * 10 + (c.toNat - 48))
    show a ≤ numV (a * 10 + (c.toNat - 48)) r
    omega
theorem parseM_ok : ∀ (l : List UInt8) (a : Nat), l.all digB = true → numV a l < 18446744073709551616 → Lib.parseUintM (2 ^ 64 - 1) a l = .ok (numV a l)
  | [], a, _, _ => rfl
  | c :: r, a, hd, h => by
    rw [List.all_cons, Bool.and_eq_true] at hd
    have hc : 48 ≤ c.toNat ∧ c.toNat ≤ 57 := by have := hd.1; unfold digB at this; simpa using this
    have h1 : a * 10 + (c.toNat - 48) ≤ numV (a * 10 + (c.toNat - 48)) r := numV_ge r _
    have h2 : numV a (c :: r) = numV (a * 10 + (c.toNat - 48)) r := rfl
    rw [h2] at h ⊢
    unfold Lib.parseUintM
    rw [if_pos hc, if_neg (by omega), if_neg (by omega)]
    exact parseM_ok r _ hd.2 h
theorem parse_ok {l : List UInt8} (hn : l ≠ []) (hd : l.all digB = true) (h : numV 0 l < 18446744073709551616) : Lib.parseUintB 64 l = .ok (numV 0 l) := by
  unfold Lib.parseUintB; rw [if_neg hn]; exact parseM_ok l 0 hd h
theorem VRL.three {γ : Gh} {w : World} {a b c : AV} {vs : List Value} (h : VRL γ w [a, b, c] vs) : ∃ x y z, vs = [x, y, z] ∧ VR γ w a x ∧ VR γ w b y ∧ VR γ w c z := by
  obtain ⟨h1, h2⟩ := h
  match vs, h1 with
  | [x, y, z], _ => exact ⟨x, y, z, rfl, h2 0 (by simp) (by simp), h2 1 (by simp) (by simp), h2 2 (by simp) (by simp)⟩
theorem puI_ok : ∀ args a, puI args = some a → ∀ γ w (vs : List Value), VRL γ w args vs → Calls Tryz.prog 223 vs.toArray w fun e w' => Below w.heap.size w w' ∧ ∃ v, e = .returned v ∧ ∀ γ w, VR γ w a v := by
  intro args a h γ w vs hv
  unfold puI at h
  split at h
  · rename_i s
    split at h
    · rename_i hc
      obtain ⟨h0, h1, h2, h3⟩ := hc
      injection h with h; subst h
      obtain ⟨x, y, z, rfl, hx, hy, hz⟩ := hv.three
      cases hx; cases hy; cases hz
      refine (Tryz.strconv_ParseUint_10_at64_ok s h3 _ (parse_ok h0 h1 h2) w).mono fun e w' he => ⟨?_, _, he.1, fun γ w => ?_⟩
      · rcases he.2 with rfl | rfl
        · exact .refl _ _
        · exact Lib.bytesWorld_below _ _ _
      · exact .tup _ _ rfl (fun k hk hk' => by
          match k, hk with
          | 0, _ => exact .v _ rfl
          | 1, _ => exact .v _ rfl)
    · cases h
  · cases h
theorem e1_intr : IntrOk E1 := fun k g hk base w0 args S hne γ w vs hS hg hv => by
  have hk2 : (Bool.rec (Bool.rec (Bool.rec none (some (growI 6)) (Nat.beq k 233)) (some (growI 6)) (Nat.beq k 210)) (some (plainI puI)) (Nat.beq k 223) : Option (List AV → St → R)) = some g := hk
  cases hb : Nat.beq k 223 with
  | false =>
    rw [hb] at hk2
    cases hx : Nat.beq k 210 with
    | true =>
      rw [hx] at hk2
      injection hk2 with hk2; subst hk2
      have : k = 210 := Nat.eq_of_beq_eq_true hx
      subst this
      exact grow_I2 base w0 args S hne γ w vs hS hv
    | false =>
    rw [hx] at hk2
    cases hc : Nat.beq k 233 with
    | false => rw [hc] at hk2; cases hk2
    | true =>
      rw [hc] at hk2
      injection hk2 with hk2; subst hk2
      have : k = 233 := Nat.eq_of_beq_eq_true hc
      subst this
      exact grow_I base w0 args S hne γ w vs hS hv
  | true =>
    rw [hb] at hk2
    injection hk2 with hk2; subst hk2
    have : k = 223 := Nat.eq_of_beq_eq_true hb
    subst this
    exact plainI_ok (P := Tryz.prog) (k := 223) puI_ok base w0 args S hne γ w vs hS hv
theorem e1_mix : E1.P.follows .mixedOrders = true := by kernel_rfl
end Go.Ax
noncomputable section
namespace Go.Ax
open Go.RowKit Go.Proofs
set_option linter.unusedVariables false
set_option linter.unusedSimpArgs false
set_option maxRecDepth 100000
theorem e1_P : E1.P = Tryz.prog := rfl
theorem e1_G : E1.G = fun _ => none := rfl
theorem neNil3 (a b : AV) : neNil Tryz.prog 3 a b = false := by unfold neNil; rw [Tryz.underlying3]
theorem u5 : ∃ d, Tryz.prog.underlying 5 = some d ∧ ∀ e, d ≠ .slice e := ⟨_, rfl, fun _ h => by cases h⟩
theorem neNil5 (a b : AV) : neNil Tryz.prog 5 a b = false := by
  have h : Tryz.prog.underlying 5 = some (.int .u8) := rfl
  unfold neNil; rw [h]
theorem fb_lss (k : IntKind) (x y : Int) : fastBin .lss (.v (.int k x)) (.v (.int k y)) = some (.v (.bool (decide (x < y)))) := by simp [fastBin]
theorem fb_leq (k : IntKind) (x y : Int) : fastBin .leq (.v (.int k x)) (.v (.int k y)) = some (.v (.bool (decide (x ≤ y)))) := by simp [fastBin]
theorem fb_gtr (k : IntKind) (x y : Int) : fastBin .gtr (.v (.int k x)) (.v (.int k y)) = some (.v (.bool (decide (x > y)))) := by simp [fastBin]
theorem fb_geq (k : IntKind) (x y : Int) : fastBin .geq (.v (.int k x)) (.v (.int k y)) = some (.v (.bool (decide (x ≥ y)))) := by simp [fastBin]
theorem fb_add (k : IntKind) (x y : Int) : fastBin .add (.v (.int k x)) (.v (.int k y)) = some (.v (.int k (k.wrap (x + y)))) := by simp [fastBin]
theorem fb_neqI (k : IntKind) (x y : Int) : fastBin .neq (.v (.int k x)) (.v (.int k y)) = some (.v (.bool (x != y))) := by simp [fastBin]
theorem fb_eqlI (k : IntKind) (x y : Int) : fastBin .eql (.v (.int k x)) (.v (.int k y)) = some (.v (.bool (x == y))) := by simp [fastBin]
def isLetter (b : UInt8) : Bool := (65 ≤ b.toNat && b.toNat ≤ 90) || (97 ≤ b.toNat && b.toNat ≤ 122) || b.toNat == 95
def isDigit (b : UInt8) : Bool := 48 ≤ b.toNat && b.toNat ≤ 57
def isBlank (b : UInt8) : Bool := b.toNat == 32 || b.toNat == 9 || b.toNat == 10
def notEnd (b : UInt8) : Bool := !(b.toNat == 10)
def isWordB (b : UInt8) : Bool := isLetter b || isDigit b
/-- It answers so, and leaves all as it is. -/
def Gives (r : R) (a : AV) (S : St) : Prop := r = .ret a S
theorem digit_w (b : UInt8) (S : St) : WC E1 174 [byteA b] S (fun r => r = .ret (.v (.bool (isDigit b))) S) := by
  refine WC_fn Tryz.f174 (by kernel_rfl) (by kernel_rfl) (by kernel_rfl) (show (_ : Nat) ≤ _ from by show (_ : Nat) ≤ _; simp [Tryz.f174]) ?_
  unfold byteA
  by_cases h1 : (48 : Int) ≤ (b.toNat : Int)
  · by_cases h2 : (b.toNat : Int) ≤ 57
    · have e : isDigit b = true := by unfold isDigit; simp; omega
      simp only [thenW_normal, thenW_exit, thenW_ret, thenW_pan, W_skip, W_region, W_drawn, W_seq, W_cond, W_block, W_loop, W_exit, W_ret, seqQ_normal, seqQ_exit, seqQ_ret, seqQ_pan, blockW_normal, blockW_ret, blockW_pan, blockW_exit, WL_nil, WL_cons, execL_no, execL_val, execL_skip, execL_enter, execL_pan, putL_none, putL_some, retL_ret, retL_pan, condW_t, condW_f, wantedA, exec1, evalO, initT, T.get_set, T.get_leaf, callA, mapO, ofOpt, ofOptS, ofConst, e1_P, e1_G, partsA, neNil3, finW_ret, finW_pan, giveW, resultsA, tupA, fb_lss, fb_leq, fb_gtr, fb_geq, fb_add, fb_eqlI, fb_neqI, Nat.reduceLT, Nat.reduceAdd, Nat.reduceEqDiff, if_true, if_false, reduceIte, true_and, and_true, Option.getD_some, List.getElem?_toArray, List.getElem?_cons_succ, List.getElem?_cons_zero, Option.bind_some, List.nil_append, List.append_nil, beq_self_eq_true, Bool.false_eq_true, Bool.true_eq_false, decide_true, decide_false, Bool.not_true, Bool.not_false, Bool.false_beq, Bool.true_beq, Option.toList, List.head?_cons, List.head?_nil, Tryz.f174, neNil5, h1, h2, e]
    · have e : isDigit b = false := by unfold isDigit; simp; omega
      simp only [thenW_normal, thenW_exit, thenW_ret, thenW_pan, W_skip, W_region, W_drawn, W_seq, W_cond, W_block, W_loop, W_exit, W_ret, seqQ_normal, seqQ_exit, seqQ_ret, seqQ_pan, blockW_normal, blockW_ret, blockW_pan, blockW_exit, WL_nil, WL_cons, execL_no, execL_val, execL_skip, execL_enter, execL_pan, putL_none, putL_some, retL_ret, retL_pan, condW_t, condW_f, wantedA, exec1, evalO, initT, T.get_set, T.get_leaf, callA, mapO, ofOpt, ofOptS, ofConst, e1_P, e1_G, partsA, neNil3, finW_ret, finW_pan, giveW, resultsA, tupA, fb_lss, fb_leq, fb_gtr, fb_geq, fb_add, fb_eqlI, fb_neqI, Nat.reduceLT, Nat.reduceAdd, Nat.reduceEqDiff, if_true, if_false, reduceIte, true_and, and_true, Option.getD_some, List.getElem?_toArray, List.getElem?_cons_succ, List.getElem?_cons_zero, Option.bind_some, List.nil_append, List.append_nil, beq_self_eq_true, Bool.false_eq_true, Bool.true_eq_false, decide_true, decide_false, Bool.not_true, Bool.not_false, Bool.false_beq, Bool.true_beq, Option.toList, List.head?_cons, List.head?_nil, Tryz.f174, neNil5, h1, h2, e]
  · have e : isDigit b = false := by unfold isDigit; simp; omega
    simp only [thenW_normal, thenW_exit, thenW_ret, thenW_pan, W_skip, W_region, W_drawn, W_seq, W_cond, W_block, W_loop, W_exit, W_ret, seqQ_normal, seqQ_exit, seqQ_ret, seqQ_pan, blockW_normal, blockW_ret, blockW_pan, blockW_exit, WL_nil, WL_cons, execL_no, execL_val, execL_skip, execL_enter, execL_pan, putL_none, putL_some, retL_ret, retL_pan, condW_t, condW_f, wantedA, exec1, evalO, initT, T.get_set, T.get_leaf, callA, mapO, ofOpt, ofOptS, ofConst, e1_P, e1_G, partsA, neNil3, finW_ret, finW_pan, giveW, resultsA, tupA, fb_lss, fb_leq, fb_gtr, fb_geq, fb_add, fb_eqlI, fb_neqI, Nat.reduceLT, Nat.reduceAdd, Nat.reduceEqDiff, if_true, if_false, reduceIte, true_and, and_true, Option.getD_some, List.getElem?_toArray, List.getElem?_cons_succ, List.getElem?_cons_zero, Option.bind_some, List.nil_append, List.append_nil, beq_self_eq_true, Bool.false_eq_true, Bool.true_eq_false, decide_true, decide_false, Bool.not_true, Bool.not_false, Bool.false_beq, Bool.true_beq, Option.toList, List.head?_cons, List.head?_nil, Tryz.f174, neNil5, h1, e]
theorem blank_w (b : UInt8) (S : St) : WC E1 169 [byteA b] S (fun r => r = .ret (.v (.bool (isBlank b))) S) := by
  refine WC_fn Tryz.f169 (by kernel_rfl) (by kernel_rfl) (by kernel_rfl) (show (_ : Nat) ≤ _ from by show (_ : Nat) ≤ _; simp [Tryz.f169]) ?_
  unfold byteA
  have n1 : (((b.toNat : Int) == 32) = (b.toNat == 32)) := by rw [Bool.eq_iff_iff]; simp; omega
  have n2 : (((b.toNat : Int) == 9) = (b.toNat == 9)) := by rw [Bool.eq_iff_iff]; simp; omega
  have n3 : (((b.toNat : Int) == 10) = (b.toNat == 10)) := by rw [Bool.eq_iff_iff]; simp; omega
  cases h1 : (b.toNat == 32)
  · cases h2 : (b.toNat == 9)
    · have e : isBlank b = (b.toNat == 10) := by unfold isBlank; rw [h1, h2]; rfl
      simp only [thenW_normal, thenW_exit, thenW_ret, thenW_pan, W_skip, W_region, W_drawn, W_seq, W_cond, W_block, W_loop, W_exit, W_ret, seqQ_normal, seqQ_exit, seqQ_ret, seqQ_pan, blockW_normal, blockW_ret, blockW_pan, blockW_exit, WL_nil, WL_cons, execL_no, execL_val, execL_skip, execL_enter, execL_pan, putL_none, putL_some, retL_ret, retL_pan, condW_t, condW_f, wantedA, exec1, evalO, initT, T.get_set, T.get_leaf, callA, mapO, ofOpt, ofOptS, ofConst, e1_P, e1_G, partsA, neNil3, finW_ret, finW_pan, giveW, resultsA, tupA, fb_lss, fb_leq, fb_gtr, fb_geq, fb_add, fb_eqlI, fb_neqI, Nat.reduceLT, Nat.reduceAdd, Nat.reduceEqDiff, if_true, if_false, reduceIte, true_and, and_true, Option.getD_some, List.getElem?_toArray, List.getElem?_cons_succ, List.getElem?_cons_zero, Option.bind_some, List.nil_append, List.append_nil, beq_self_eq_true, Bool.false_eq_true, Bool.true_eq_false, decide_true, decide_false, Bool.not_true, Bool.not_false, Bool.false_beq, Bool.true_beq, Option.toList, List.head?_cons, List.head?_nil, Tryz.f169, neNil5, n1, n2, n3, h1, h2, e]
    · have e : isBlank b = true := by unfold isBlank; rw [h1, h2]; rfl
      simp only [thenW_normal, thenW_exit, thenW_ret, thenW_pan, W_skip, W_region, W_drawn, W_seq, W_cond, W_block, W_loop, W_exit, W_ret, seqQ_normal, seqQ_exit, seqQ_ret, seqQ_pan, blockW_normal, blockW_ret, blockW_pan, blockW_exit, WL_nil, WL_cons, execL_no, execL_val, execL_skip, execL_enter, execL_pan, putL_none, putL_some, retL_ret, retL_pan, condW_t, condW_f, wantedA, exec1, evalO, initT, T.get_set, T.get_leaf, callA, mapO, ofOpt, ofOptS, ofConst, e1_P, e1_G, partsA, neNil3, finW_ret, finW_pan, giveW, resultsA, tupA, fb_lss, fb_leq, fb_gtr, fb_geq, fb_add, fb_eqlI, fb_neqI, Nat.reduceLT, Nat.reduceAdd, Nat.reduceEqDiff, if_true, if_false, reduceIte, true_and, and_true, Option.getD_some, List.getElem?_toArray, List.getElem?_cons_succ, List.getElem?_cons_zero, Option.bind_some, List.nil_append, List.append_nil, beq_self_eq_true, Bool.false_eq_true, Bool.true_eq_false, decide_true, decide_false, Bool.not_true, Bool.not_false, Bool.false_beq, Bool.true_beq, Option.toList, List.head?_cons, List.head?_nil, Tryz.f169, neNil5, n1, n2, n3, h1, h2, e]
  · have e : isBlank b = true := by unfold isBlank; rw [h1]; rfl
    simp only [thenW_normal, thenW_exit, thenW_ret, thenW_pan, W_skip, W_region, W_drawn, W_seq, W_cond, W_block, W_loop, W_exit, W_ret, seqQ_normal, seqQ_exit, seqQ_ret, seqQ_pan, blockW_normal, blockW_ret, blockW_pan, blockW_exit, WL_nil, WL_cons, execL_no, execL_val, execL_skip, execL_enter, execL_pan, putL_none, putL_some, retL_ret, retL_pan, condW_t, condW_f, wantedA, exec1, evalO, initT, T.get_set, T.get_leaf, callA, mapO, ofOpt, ofOptS, ofConst, e1_P, e1_G, partsA, neNil3, finW_ret, finW_pan, giveW, resultsA, tupA, fb_lss, fb_leq, fb_gtr, fb_geq, fb_add, fb_eqlI, fb_neqI, Nat.reduceLT, Nat.reduceAdd, Nat.reduceEqDiff, if_true, if_false, reduceIte, true_and, and_true, Option.getD_some, List.getElem?_toArray, List.getElem?_cons_succ, List.getElem?_cons_zero, Option.bind_some, List.nil_append, List.append_nil, beq_self_eq_true, Bool.false_eq_true, Bool.true_eq_false, decide_true, decide_false, Bool.not_true, Bool.not_false, Bool.false_beq, Bool.true_beq, Option.toList, List.head?_cons, List.head?_nil, Tryz.f169, neNil5, n1, n2, n3, h1, e]
theorem notEnd_w (b : UInt8) (S : St) : WC E1 171 [byteA b] S (fun r => r = .ret (.v (.bool (notEnd b))) S) := by
  refine WC_fn Tryz.f171 (by kernel_rfl) (by kernel_rfl) (by kernel_rfl) (show (_ : Nat) ≤ _ from by show (_ : Nat) ≤ _; simp [Tryz.f171]) ?_
  unfold byteA
  have n3 : (((b.toNat : Int) != 10) = notEnd b) := by unfold notEnd; rw [Bool.eq_iff_iff]; simp; omega
  simp only [thenW_normal, thenW_exit, thenW_ret, thenW_pan, W_skip, W_region, W_drawn, W_seq, W_cond, W_block, W_loop, W_exit, W_ret, seqQ_normal, seqQ_exit, seqQ_ret, seqQ_pan, blockW_normal, blockW_ret, blockW_pan, blockW_exit, WL_nil, WL_cons, execL_no, execL_val, execL_skip, execL_enter, execL_pan, putL_none, putL_some, retL_ret, retL_pan, condW_t, condW_f, wantedA, exec1, evalO, initT, T.get_set, T.get_leaf, callA, mapO, ofOpt, ofOptS, ofConst, e1_P, e1_G, partsA, neNil3, finW_ret, finW_pan, giveW, resultsA, tupA, fb_lss, fb_leq, fb_gtr, fb_geq, fb_add, fb_eqlI, fb_neqI, Nat.reduceLT, Nat.reduceAdd, Nat.reduceEqDiff, if_true, if_false, reduceIte, true_and, and_true, Option.getD_some, List.getElem?_toArray, List.getElem?_cons_succ, List.getElem?_cons_zero, Option.bind_some, List.nil_append, List.append_nil, beq_self_eq_true, Bool.false_eq_true, Bool.true_eq_false, decide_true, decide_false, Bool.not_true, Bool.not_false, Bool.false_beq, Bool.true_beq, Option.toList, List.head?_cons, List.head?_nil, Tryz.f171, neNil5, n3]
theorem letter_w (b : UInt8) (S : St) : WC E1 172 [byteA b] S (fun r => r = .ret (.v (.bool (isLetter b))) S) := by
  refine WC_fn Tryz.f172 (by kernel_rfl) (by kernel_rfl) (by kernel_rfl) (show (_ : Nat) ≤ _ from by show (_ : Nat) ≤ _; simp [Tryz.f172]) ?_
  unfold byteA
  have n5 : (((b.toNat : Int) == 95) = (b.toNat == 95)) := by rw [Bool.eq_iff_iff]; simp; omega
  have key : ∀ (p q : Bool), (65 ≤ b.toNat && b.toNat ≤ 90) = p → (97 ≤ b.toNat && b.toNat ≤ 122) = q → isLetter b = (p || q || b.toNat == 95) := fun p q h1 h2 => by unfold isLetter; rw [h1, h2]
  by_cases h1 : (65 : Int) ≤ (b.toNat : Int)
  · by_cases h2 : (b.toNat : Int) ≤ 90
    · have e := key true (97 ≤ b.toNat && b.toNat ≤ 122) (by simp; omega) rfl
      simp only [Bool.true_or] at e
      simp only [thenW_normal, thenW_exit, thenW_ret, thenW_pan, W_skip, W_region, W_drawn, W_seq, W_cond, W_block, W_loop, W_exit, W_ret, seqQ_normal, seqQ_exit, seqQ_ret, seqQ_pan, blockW_normal, blockW_ret, blockW_pan, blockW_exit, WL_nil, WL_cons, execL_no, execL_val, execL_skip, execL_enter, execL_pan, putL_none, putL_some, retL_ret, retL_pan, condW_t, condW_f, wantedA, exec1, evalO, initT, T.get_set, T.get_leaf, callA, mapO, ofOpt, ofOptS, ofConst, e1_P, e1_G, partsA, neNil3, finW_ret, finW_pan, giveW, resultsA, tupA, fb_lss, fb_leq, fb_gtr, fb_geq, fb_add, fb_eqlI, fb_neqI, Nat.reduceLT, Nat.reduceAdd, Nat.reduceEqDiff, if_true, if_false, reduceIte, true_and, and_true, Option.getD_some, List.getElem?_toArray, List.getElem?_cons_succ, List.getElem?_cons_zero, Option.bind_some, List.nil_append, List.append_nil, beq_self_eq_true, Bool.false_eq_true, Bool.true_eq_false, decide_true, decide_false, Bool.not_true, Bool.not_false, Bool.false_beq, Bool.true_beq, Option.toList, List.head?_cons, List.head?_nil, Tryz.f172, neNil5, n5, h1, h2, e]
    · by_cases h3 : (97 : Int) ≤ (b.toNat : Int)
      · by_cases h4 : (b.toNat : Int) ≤ 122
        · have e := key false true (by simp; omega) (by simp; omega)
          simp only [Bool.or_true, Bool.true_or] at e
          simp only [thenW_normal, thenW_exit, thenW_ret, thenW_pan, W_skip, W_region, W_drawn, W_seq, W_cond, W_block, W_loop, W_exit, W_ret, seqQ_normal, seqQ_exit, seqQ_ret, seqQ_pan, blockW_normal, blockW_ret, blockW_pan, blockW_exit, WL_nil, WL_cons, execL_no, execL_val, execL_skip, execL_enter, execL_pan, putL_none, putL_some, retL_ret, retL_pan, condW_t, condW_f, wantedA, exec1, evalO, initT, T.get_set, T.get_leaf, callA, mapO, ofOpt, ofOptS, ofConst, e1_P, e1_G, partsA, neNil3, finW_ret, finW_pan, giveW, resultsA, tupA, fb_lss, fb_leq, fb_gtr, fb_geq, fb_add, fb_eqlI, fb_neqI, Nat.reduceLT, Nat.reduceAdd, Nat.reduceEqDiff, if_true, if_false, reduceIte, true_and, and_true, Option.getD_some, List.getElem?_toArray, List.getElem?_cons_succ, List.getElem?_cons_zero, Option.bind_some, List.nil_append, List.append_nil, beq_self_eq_true, Bool.false_eq_true, Bool.true_eq_false, decide_true, decide_false, Bool.not_true, Bool.not_false, Bool.false_beq, Bool.true_beq, Option.toList, List.head?_cons, List.head?_nil, Tryz.f172, neNil5, n5, h1, h2, h3, h4, e]
        · have e := key false false (by simp; omega) (by simp; omega)
          simp only [Bool.or_false, Bool.false_or] at e
          simp only [thenW_normal, thenW_exit, thenW_ret, thenW_pan, W_skip, W_region, W_drawn, W_seq, W_cond, W_block, W_loop, W_exit, W_ret, seqQ_normal, seqQ_exit, seqQ_ret, seqQ_pan, blockW_normal, blockW_ret, blockW_pan, blockW_exit, WL_nil, WL_cons, execL_no, execL_val, execL_skip, execL_enter, execL_pan, putL_none, putL_some, retL_ret, retL_pan, condW_t, condW_f, wantedA, exec1, evalO, initT, T.get_set, T.get_leaf, callA, mapO, ofOpt, ofOptS, ofConst, e1_P, e1_G, partsA, neNil3, finW_ret, finW_pan, giveW, resultsA, tupA, fb_lss, fb_leq, fb_gtr, fb_geq, fb_add, fb_eqlI, fb_neqI, Nat.reduceLT, Nat.reduceAdd, Nat.reduceEqDiff, if_true, if_false, reduceIte, true_and, and_true, Option.getD_some, List.getElem?_toArray, List.getElem?_cons_succ, List.getElem?_cons_zero, Option.bind_some, List.nil_append, List.append_nil, beq_self_eq_true, Bool.false_eq_true, Bool.true_eq_false, decide_true, decide_false, Bool.not_true, Bool.not_false, Bool.false_beq, Bool.true_beq, Option.toList, List.head?_cons, List.head?_nil, Tryz.f172, neNil5, n5, h1, h2, h3, h4, e]
      · have e := key false false (by simp; omega) (by simp; omega)
        simp only [Bool.or_false, Bool.false_or] at e
        simp only [thenW_normal, thenW_exit, thenW_ret, thenW_pan, W_skip, W_region, W_drawn, W_seq, W_cond, W_block, W_loop, W_exit, W_ret, seqQ_normal, seqQ_exit, seqQ_ret, seqQ_pan, blockW_normal, blockW_ret, blockW_pan, blockW_exit, WL_nil, WL_cons, execL_no, execL_val, execL_skip, execL_enter, execL_pan, putL_none, putL_some, retL_ret, retL_pan, condW_t, condW_f, wantedA, exec1, evalO, initT, T.get_set, T.get_leaf, callA, mapO, ofOpt, ofOptS, ofConst, e1_P, e1_G, partsA, neNil3, finW_ret, finW_pan, giveW, resultsA, tupA, fb_lss, fb_leq, fb_gtr, fb_geq, fb_add, fb_eqlI, fb_neqI, Nat.reduceLT, Nat.reduceAdd, Nat.reduceEqDiff, if_true, if_false, reduceIte, true_and, and_true, Option.getD_some, List.getElem?_toArray, List.getElem?_cons_succ, List.getElem?_cons_zero, Option.bind_some, List.nil_append, List.append_nil, beq_self_eq_true, Bool.false_eq_true, Bool.true_eq_false, decide_true, decide_false, Bool.not_true, Bool.not_false, Bool.false_beq, Bool.true_beq, Option.toList, List.head?_cons, List.head?_nil, Tryz.f172, neNil5, n5, h1, h2, h3, e]
  · have h3 : ¬ (97 : Int) ≤ (b.toNat : Int) := by omega
    have e := key false false (by simp; omega) (by simp; omega)
    simp only [Bool.or_false, Bool.false_or] at e
    simp only [thenW_normal, thenW_exit, thenW_ret, thenW_pan, W_skip, W_region, W_drawn, W_seq, W_cond, W_block, W_loop, W_exit, W_ret, seqQ_normal, seqQ_exit, seqQ_ret, seqQ_pan, blockW_normal, blockW_ret, blockW_pan, blockW_exit, WL_nil, WL_cons, execL_no, execL_val, execL_skip, execL_enter, execL_pan, putL_none, putL_some, retL_ret, retL_pan, condW_t, condW_f, wantedA, exec1, evalO, initT, T.get_set, T.get_leaf, callA, mapO, ofOpt, ofOptS, ofConst, e1_P, e1_G, partsA, neNil3, finW_ret, finW_pan, giveW, resultsA, tupA, fb_lss, fb_leq, fb_gtr, fb_geq, fb_add, fb_eqlI, fb_neqI, Nat.reduceLT, Nat.reduceAdd, Nat.reduceEqDiff, if_true, if_false, reduceIte, true_and, and_true, Option.getD_some, List.getElem?_toArray, List.getElem?_cons_succ, List.getElem?_cons_zero, Option.bind_some, List.nil_append, List.append_nil, beq_self_eq_true, Bool.false_eq_true, Bool.true_eq_false, decide_true, decide_false, Bool.not_true, Bool.not_false, Bool.false_beq, Bool.true_beq, Option.toList, List.head?_cons, List.head?_nil, Tryz.f172, neNil5, n5, h1, h3, e]
theorem fnOk99 : ∃ fn, E1.F 172 = some fn := Option.isSome_iff_exists.1 (by kernel_rfl)
theorem fnOk101 : ∃ fn, E1.F 174 = some fn := Option.isSome_iff_exists.1 (by kernel_rfl)
theorem wordB_w (b : UInt8) (S : St) : WC E1 221 [byteA b] S (fun r => r = .ret (.v (.bool (isWordB b))) S) := by
  refine WC_fn Tryz.f221 (by kernel_rfl) (by kernel_rfl) (by kernel_rfl) (show (_ : Nat) ≤ _ from by show (_ : Nat) ≤ _; simp [Tryz.f221]) ?_
  obtain ⟨fn1, hf1⟩ := fnOk99
  obtain ⟨fn2, hf2⟩ := fnOk101
  simp only [thenW_normal, thenW_exit, thenW_ret, thenW_pan, W_skip, W_region, W_drawn, W_seq, W_cond, W_block, W_loop, W_exit, W_ret, seqQ_normal, seqQ_exit, seqQ_ret, seqQ_pan, blockW_normal, blockW_ret, blockW_pan, blockW_exit, WL_nil, WL_cons, execL_no, execL_val, execL_skip, execL_enter, execL_pan, putL_none, putL_some, retL_ret, retL_pan, condW_t, condW_f, wantedA, exec1, evalO, initT, T.get_set, T.get_leaf, callA, mapO, ofOpt, ofOptS, ofConst, e1_P, e1_G, partsA, neNil3, finW_ret, finW_pan, giveW, resultsA, tupA, fb_lss, fb_leq, fb_gtr, fb_geq, fb_add, fb_eqlI, fb_neqI, Nat.reduceLT, Nat.reduceAdd, Nat.reduceEqDiff, if_true, if_false, reduceIte, true_and, and_true, Option.getD_some, List.getElem?_toArray, List.getElem?_cons_succ, List.getElem?_cons_zero, Option.bind_some, List.nil_append, List.append_nil, beq_self_eq_true, Bool.false_eq_true, Bool.true_eq_false, decide_true, decide_false, Bool.not_true, Bool.not_false, Bool.false_beq, Bool.true_beq, Option.toList, List.head?_cons, List.head?_nil, Tryz.f221, neNil5, hf1, hf2]
  refine WC.mono (letter_w b S) ?_
  rintro _ rfl
  cases h : isLetter b
  · simp only [thenW_normal, thenW_exit, thenW_ret, thenW_pan, W_skip, W_region, W_drawn, W_seq, W_cond, W_block, W_loop, W_exit, W_ret, seqQ_normal, seqQ_exit, seqQ_ret, seqQ_pan, blockW_normal, blockW_ret, blockW_pan, blockW_exit, WL_nil, WL_cons, execL_no, execL_val, execL_skip, execL_enter, execL_pan, putL_none, putL_some, retL_ret, retL_pan, condW_t, condW_f, wantedA, exec1, evalO, initT, T.get_set, T.get_leaf, callA, mapO, ofOpt, ofOptS, ofConst, e1_P, e1_G, partsA, neNil3, finW_ret, finW_pan, giveW, resultsA, tupA, fb_lss, fb_leq, fb_gtr, fb_geq, fb_add, fb_eqlI, fb_neqI, Nat.reduceLT, Nat.reduceAdd, Nat.reduceEqDiff, if_true, if_false, reduceIte, true_and, and_true, Option.getD_some, List.getElem?_toArray, List.getElem?_cons_succ, List.getElem?_cons_zero, Option.bind_some, List.nil_append, List.append_nil, beq_self_eq_true, Bool.false_eq_true, Bool.true_eq_false, decide_true, decide_false, Bool.not_true, Bool.not_false, Bool.false_beq, Bool.true_beq, Option.toList, List.head?_cons, List.head?_nil, Tryz.f221, neNil5, hf1, hf2]
    refine WC.mono (digit_w b S) ?_
    rintro _ rfl
    have e : isWordB b = isDigit b := by unfold isWordB; rw [h]; rfl
    simp only [thenW_normal, thenW_exit, thenW_ret, thenW_pan, W_skip, W_region, W_drawn, W_seq, W_cond, W_block, W_loop, W_exit, W_ret, seqQ_normal, seqQ_exit, seqQ_ret, seqQ_pan, blockW_normal, blockW_ret, blockW_pan, blockW_exit, WL_nil, WL_cons, execL_no, execL_val, execL_skip, execL_enter, execL_pan, putL_none, putL_some, retL_ret, retL_pan, condW_t, condW_f, wantedA, exec1, evalO, initT, T.get_set, T.get_leaf, callA, mapO, ofOpt, ofOptS, ofConst, e1_P, e1_G, partsA, neNil3, finW_ret, finW_pan, giveW, resultsA, tupA, fb_lss, fb_leq, fb_gtr, fb_geq, fb_add, fb_eqlI, fb_neqI, Nat.reduceLT, Nat.reduceAdd, Nat.reduceEqDiff, if_true, if_false, reduceIte, true_and, and_true, Option.getD_some, List.getElem?_toArray, List.getElem?_cons_succ, List.getElem?_cons_zero, Option.bind_some, List.nil_append, List.append_nil, beq_self_eq_true, Bool.false_eq_true, Bool.true_eq_false, decide_true, decide_false, Bool.not_true, Bool.not_false, Bool.false_beq, Bool.true_beq, Option.toList, List.head?_cons, List.head?_nil, Tryz.f221, neNil5, hf1, hf2, e]
  · have e : isWordB b = true := by unfold isWordB; rw [h]; rfl
    simp only [thenW_normal, thenW_exit, thenW_ret, thenW_pan, W_skip, W_region, W_drawn, W_seq, W_cond, W_block, W_loop, W_exit, W_ret, seqQ_normal, seqQ_exit, seqQ_ret, seqQ_pan, blockW_normal, blockW_ret, blockW_pan, blockW_exit, WL_nil, WL_cons, execL_no, execL_val, execL_skip, execL_enter, execL_pan, putL_none, putL_some, retL_ret, retL_pan, condW_t, condW_f, wantedA, exec1, evalO, initT, T.get_set, T.get_leaf, callA, mapO, ofOpt, ofOptS, ofConst, e1_P, e1_G, partsA, neNil3, finW_ret, finW_pan, giveW, resultsA, tupA, fb_lss, fb_leq, fb_gtr, fb_geq, fb_add, fb_eqlI, fb_neqI, Nat.reduceLT, Nat.reduceAdd, Nat.reduceEqDiff, if_true, if_false, reduceIte, true_and, and_true, Option.getD_some, List.getElem?_toArray, List.getElem?_cons_succ, List.getElem?_cons_zero, Option.bind_some, List.nil_append, List.append_nil, beq_self_eq_true, Bool.false_eq_true, Bool.true_eq_false, decide_true, decide_false, Bool.not_true, Bool.not_false, Bool.false_beq, Bool.true_beq, Option.toList, List.head?_cons, List.head?_nil, Tryz.f221, neNil5, hf1, hf2, e]
end Go.Ax
