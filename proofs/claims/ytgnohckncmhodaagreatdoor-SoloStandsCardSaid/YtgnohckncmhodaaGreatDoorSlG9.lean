/-
  Runs reasoned over without numbers of rounds: what holds of a run from some number of rounds on; rules for code, regions, calls, loops.
-/
import Derived.Test.YtgnohckncmhodaaGreatDoorSlG8
import Derived.Test.YtgnohckncmhodaaGreatDoorProg
import Derived.ProofKit
import Derived.Laws.Slices
import Derived.IntWalk
import Derived.Lib.AppendZerosOnto
import Derived.Test.YtgnohckncmhodaaGreatDoorAxShelf
import Derived.Lib.AtoiErrMem
import Derived.KernelRfl
import Derived.Lib.ParseIntB
import Derived.Lib.Hide
import Derived.Laws.BitsLemmas
import Derived.Laws.Unary
set_option linter.unusedVariables false
set_option linter.unusedSimpArgs false
set_option maxHeartbeats 16000000
noncomputable section
namespace Go.Ax
open Go.RowKit
set_option linter.unusedVariables false
set_option linter.unusedSimpArgs false
abbrev ckN (E : Env) (m : Nat) : CallK := callN E (drawnNew E) m
/-- From some number of rounds on a call ends so. -/
def CT (E : Env) (k : FuncId) (args : List AV) (S : St) (r : R) : Prop := ∃ m0, ∀ m, m0 ≤ m → ckN E m k args S = r
def RT (E : Env) (n : Nat) (c : Code) (f : Fr) (S : St) (r : O) : Prop := ∃ m0, ∀ m, m0 ≤ m → run E (drawnNew E) m n c f S = r
def LT (E : Env) (n : Nat) (ops : Array Oper) (l : List Oper) (f : Fr) (S : St) (r : O) : Prop := ∃ m0, ∀ m, m0 ≤ m → runL E (ckN E m) n ops l f S = r
def DT (E : Env) (n : Nat) (ops : Array Oper) (l : List RS) (f : Fr) (S : St) (r : O) : Prop := ∃ m0, ∀ m, m0 ≤ m → runRS E (ckN E m) n ops l f S = r
/-- It ends so that .. -/
def WC (E : Env) (k : FuncId) (args : List AV) (S : St) (Q : R → Prop) : Prop := ∃ r, CT E k args S r ∧ Q r
def WX (E : Env) (n : Nat) (c : Code) (f : Fr) (S : St) (Q : O → Prop) : Prop := ∃ r, RT E n c f S r ∧ Q r
def putW (n : Nat) (f : Fr) (dst : Option Tmp) (a : AV) (S : St) (K : Fr → St → Prop) : Prop := match dst with
  | none => K f S
  | some d => d < n ∧ K { f with tmps := f.tmps.set d (some a) } S
def retW (n : Nat) (f : Fr) (dst : Option Tmp) (K : Fr → St → Prop) (Q : O → Prop) : R → Prop
  | .ret a S => putW n f dst a S K
  | .pan a S => Q (.out (.pan a) f S)
  | .fail => False
def execW (E : Env) (n : Nat) (o : Oper) (f : Fr) (K : Fr → St → Prop) (Q : O → Prop) : OR → Prop
  | .val a S' => putW n f o.dst a S' K
  | .skip S' => putW n f o.dst (.tup []) S' K
  | .enter k args S' => WC E k args S' (retW n f o.dst K Q)
  | .dfr fn caps args S' => putW n { f with dfr := ⟨fn, caps, args⟩ :: f.dfr } o.dst (.tup []) S' K
  | .pan a S' => Q (.out (.pan a) f S')
  | .fail => False
def stepW (E : Env) (n : Nat) (ops : Array Oper) (o : Oper) (f : Fr) (S : St) (K : Fr → St → Prop) (Q : O → Prop) : Prop := match wantedA ops o f.tmps with
  | none => False
  | some false => putW n f o.dst (.tup []) S K
  | some true => execW E n o f K Q (exec1 E f.tmps S o)
def WL (E : Env) (n : Nat) (ops : Array Oper) : List Oper → Fr → St → (O → Prop) → Prop
  | [], f, S, Q => Q (.out .normal f S)
  | o :: l, f, S, Q => stepW E n ops o f S (fun f' S' => WL E n ops l f' S' Q) Q
def WR (E : Env) (n : Nat) (ops : Array Oper) : List RS → Fr → St → (O → Prop) → Prop
  | [], f, S, Q => Q (.out .normal f S)
  | .op o :: l, f, S, Q => stepW E n ops o f S (fun f' S' => WR E n ops l f' S' Q) Q
  | .re o :: l, f, S, Q => againO E ops o f.tmps S = true ∧ WR E n ops l f S Q
/-- A region whose order is drawn. -/
def WD (E : Env) (n : Nat) (ops : Array Oper) (f : Fr) (S : St) (Q : O → Prop) : Prop := ∃ r, (∃ m0, ∀ m, m0 ≤ m → drawnNew E (ckN E m) n ops f S = r) ∧ Q r
def thenW (K : Fr → St → Prop) (Q : O → Prop) : O → Prop
  | .out .normal f S => K f S
  | r => Q r
def blockW (id : Nat) (Q : O → Prop) : O → Prop
  | .out (.exit id') f S => if id' = id then Q (.out .normal f S) else Q (.out (.exit id') f S)
  | r => Q r
def condW (c : Option AV) (x y : Prop) : Prop := match c with
  | some (.v (.bool true)) => x
  | some (.v (.bool false)) => y
  | _ => False
theorem condW_bool (b : Bool) (x y : Prop) : condW (some (.v (.bool b))) x y ↔ (b = true → x) ∧ (b = false → y) := by
  cases b <;> simp [condW]
def W (E : Env) (n : Nat) (c : Code) (f : Fr) (S : St) (Q : O → Prop) : Prop := match c with
  | .skip => Q (.out .normal f S)
  | .label _ => Q (.out .normal f S)
  | .region _ ops false => WL E n ops ops.toList f S Q
  | .region _ ops true => WD E n ops f S Q
  | .seq a b => W E n a f S (thenW (fun f' S' => W E n b f' S' Q) Q)
  | .cond c x y => condW (evalO E.G f.tmps c) (W E n x f S Q) (W E n y f S Q)
  | .block id c => W E n c f S (blockW id Q)
  | .loop c => WX E n (.loop c) f S Q
  | .exit id => Q (.out (.exit id) f S)
  | .ret => Q (.out .ret f S)
  | _ => False
theorem run_succ (E : Env) (m n : Nat) (c : Code) (f : Fr) (S : St) : run E (drawnNew E) (m + 1) n c f S = stepC E (drawnNew E) (run E (drawnNew E) m) (ckN E m) n c f S := rfl
theorem put_sound {n : Nat} {f : Fr} {dst : Option Tmp} {a : AV} {S : St} {K : Fr → St → Prop} (h : putW n f dst a S K) : ∃ f', putA n f dst a S = .out .normal f' S ∧ K f' S := by
  unfold putW at h; unfold putA
  cases dst with
  | none => exact ⟨f, rfl, h⟩
  | some d => exact ⟨_, by simp only [if_pos h.1], h.2⟩
/-- A step, from some number of rounds on. -/
theorem step_sound {E : Env} {n : Nat} {ops : Array Oper} {o : Oper} {f : Fr} {S : St} {K : Fr → St → Prop} {Q : O → Prop} (h : stepW E n ops o f S K Q) :
    ∃ m0, (∃ f' S', K f' S' ∧ ∀ m, m0 ≤ m → stepO E (ckN E m) n ops o f S = .out .normal f' S') ∨ (∃ a f' S', Q (.out (.pan a) f' S') ∧ ∀ m, m0 ≤ m → stepO E (ckN E m) n ops o f S = .out (.pan a) f' S') := by
  unfold stepW at h
  have hput : ∀ {dst a S'}, putW n f dst a S' K → (∀ m, stepO E (ckN E m) n ops o f S = putA n f dst a S') → ∃ m0, (∃ f' S', K f' S' ∧ ∀ m, m0 ≤ m → stepO E (ckN E m) n ops o f S = .out .normal f' S') ∨ (∃ a f' S', Q (.out (.pan a) f' S') ∧ ∀ m, m0 ≤ m → stepO E (ckN E m) n ops o f S = .out (.pan a) f' S') := fun hp he => by
    obtain ⟨f', e, hk⟩ := put_sound hp
    exact ⟨0, .inl ⟨f', _, hk, fun m _ => (he m).trans e⟩⟩
  cases hw : wantedA ops o f.tmps with
  | none => rw [hw] at h; exact h.elim
  | some b =>
    rw [hw] at h
    cases b with
    | false => exact hput h (fun m => by unfold stepO; rw [hw])
    | true =>
      unfold execW at h
      simp only at h
      cases hx : exec1 E f.tmps S o with
      | val a S' => rw [hx] at h; exact hput h (fun m => by unfold stepO; rw [hw]; simp only [hx])
      | skip S' => rw [hx] at h; exact hput h (fun m => by unfold stepO; rw [hw]; simp only [hx])
      | enter k args S' =>
        rw [hx] at h
        obtain ⟨r, ⟨m0, hm⟩, hq⟩ := h
        unfold retW at hq
        cases r with
        | ret a S2 =>
          obtain ⟨f', e, hk⟩ := put_sound hq
          exact ⟨m0, .inl ⟨f', _, hk, fun m h => by unfold stepO; rw [hw]; simp only [hx, hm m h, e]⟩⟩
        | pan a S2 => exact ⟨m0, .inr ⟨a, _, _, hq, fun m h => by unfold stepO; rw [hw]; simp only [hx, hm m h]⟩⟩
        | fail => exact hq.elim
      | dfr fn caps args S' =>
        rw [hx] at h
        obtain ⟨f', e, hk⟩ := put_sound h
        exact ⟨0, .inl ⟨f', _, hk, fun m _ => by unfold stepO; rw [hw]; simp only [hx, e]⟩⟩
      | pan a S' => rw [hx] at h; exact ⟨0, .inr ⟨a, _, _, h, fun m _ => by unfold stepO; rw [hw]; simp only [hx]⟩⟩
      | fail => rw [hx] at h; exact h.elim
theorem WL_sound {E : Env} {n : Nat} {ops : Array Oper} : ∀ {l : List Oper} {f : Fr} {S : St} {Q : O → Prop}, WL E n ops l f S Q → ∃ r, LT E n ops l f S r ∧ Q r
  | [], f, S, Q, h => ⟨_, ⟨0, fun _ _ => rfl⟩, h⟩
  | o :: l, f, S, Q, h => by
    obtain ⟨m0, ⟨f', S', hk, hm⟩ | ⟨a, f', S', hq, hm⟩⟩ := step_sound h
    · obtain ⟨r, ⟨m1, h1⟩, h2⟩ := WL_sound hk
      exact ⟨r, ⟨max m0 m1, fun m hmm => by
        show (match stepO E (ckN E m) n ops o f S with | .out .normal f' S' => runL E (ckN E m) n ops l f' S' | x => x) = r
        rw [hm m (by omega)]; exact h1 m (by omega)⟩, h2⟩
    · exact ⟨_, ⟨m0, fun m hmm => by
        show (match stepO E (ckN E m) n ops o f S with | .out .normal f' S' => runL E (ckN E m) n ops l f' S' | x => x) = _
        rw [hm m hmm]⟩, hq⟩
theorem WR_sound {E : Env} {n : Nat} {ops : Array Oper} : ∀ {l : List RS} {f : Fr} {S : St} {Q : O → Prop}, WR E n ops l f S Q → ∃ r, DT E n ops l f S r ∧ r ≠ .fail ∧ Q r
  | [], f, S, Q, h => ⟨_, ⟨0, fun _ _ => rfl⟩, (fun e => by cases e), h⟩
  | .op o :: l, f, S, Q, h => by
    obtain ⟨m0, ⟨f', S', hk, hm⟩ | ⟨a, f', S', hq, hm⟩⟩ := step_sound h
    · obtain ⟨r, ⟨m1, h1⟩, h3, h2⟩ := WR_sound hk
      exact ⟨r, ⟨max m0 m1, fun m hmm => by
        show (match stepO E (ckN E m) n ops o f S with | .out .normal f' S' => runRS E (ckN E m) n ops l f' S' | x => x) = r
        rw [hm m (by omega)]; exact h1 m (by omega)⟩, h3, h2⟩
    · exact ⟨_, ⟨m0, fun m hmm => by
        show (match stepO E (ckN E m) n ops o f S with | .out .normal f' S' => runRS E (ckN E m) n ops l f' S' | x => x) = _
        rw [hm m hmm]⟩, (fun e => by cases e), hq⟩
  | .re o :: l, f, S, Q, h => by
    obtain ⟨r, ⟨m1, h1⟩, h3, h2⟩ := WR_sound h.2
    exact ⟨r, ⟨m1, fun m hmm => by
      show (if againO E ops o f.tmps S = true then runRS E (ckN E m) n ops l f S else .fail) = r
      rw [if_pos h.1]; exact h1 m hmm⟩, h3, h2⟩
/-- A drawn region, by one order. -/
theorem WD_steps {E : Env} {n : Nat} {ops : Array Oper} {f : Fr} {S : St} {Q : O → Prop} {rs : List RS} (h3 : stepsD ops (bm ops.toList []) (eager ops (bm ops.toList []) ops.size (List.range ops.size) 0) [] = some rs)
    (h2 : static ops (bm ops.toList []) (eager ops (bm ops.toList []) ops.size (List.range ops.size) 0) = true) (h : WR E n ops rs f S (fun r => Q (fixX ⟨eraseT ops.toList f.tmps, f.dfr⟩ r))) : WD E n ops f S Q := by
  obtain ⟨r, ⟨m0, hm⟩, hne, hq⟩ := WR_sound h
  have h1 : flFind E.P ops = none := by unfold flFind; simp only [h2, if_true]
  have h1m : mkFind E.P ops = none := by unfold mkFind; simp only [h2, if_true]
  have h1n : mk2Find E.P ops = none := by unfold mk2Find; simp only [h2, if_true]
  have h1t : isTwo ops = false := by unfold isTwo; simp only [h2, if_true]
  refine ⟨_, ⟨m0, fun m hmm => ?_⟩, hq⟩
  unfold drawnNew
  rw [h1]
  simp only [h1m, h1n, h1t, Bool.false_eq_true, if_false]
  unfold drawnRun
  simp only
  rw [if_pos h2]
  rcases drun_steps (E := E) (ck := ckN E m) (n := n) (fb := ⟨eraseT ops.toList f.tmps, f.dfr⟩) _ rs f S [] h3 (fun _ h => absurd h List.not_mem_nil) with h | h
  · rw [hm m hmm] at h; exact absurd h hne
  · rw [h, hm m hmm]
theorem WD_fl {E : Env} {n : Nat} {ops : Array Oper} {f : Fr} {S : St} {Q : O → Prop} {x : FlP} {rs : List RS} (h1 : flFind E.P ops = some x) (h2 : allSteps ops x = some rs) (h3 : x.d < n)
    (h : WR E n ops rs ⟨f.tmps.set x.d none, f.dfr⟩ S (fun r => Q (fixX ⟨eraseT ops.toList f.tmps, f.dfr⟩ r))) : WD E n ops f S Q := by
  obtain ⟨r, ⟨m0, hm⟩, hne, hq⟩ := WR_sound h
  refine ⟨_, ⟨m0, fun m hmm => ?_⟩, hq⟩
  unfold drawnNew
  rw [h1]
  simp only
  unfold drawnFl
  rw [h2]
  simp only
  rw [if_pos h3, hm m hmm]
theorem WD_mk {E : Env} {n : Nat} {ops : Array Oper} {f : Fr} {S : St} {Q : O → Prop} {x : MkX} {rs : List RS} (h0 : flFind E.P ops = none) (h1 : mkFind E.P ops = some x) (h2 : mkSteps ops x = some rs) (h3 : mkFit E.P n ops x = true)
    (h : WR E n ops rs ⟨clearT E.P ops x.mks f.tmps, f.dfr⟩ S (fun r => Q (fixX ⟨eraseT ops.toList f.tmps, f.dfr⟩ r))) : WD E n ops f S Q := by
  obtain ⟨r, ⟨m0, hm⟩, hne, hq⟩ := WR_sound h
  refine ⟨_, ⟨m0, fun m hmm => ?_⟩, hq⟩
  unfold drawnNew
  rw [h0]
  simp only [h1]
  unfold drawnMk
  rw [h2]
  simp only
  rw [if_pos h3, hm m hmm]
/-- Steps by their numbers. -/
def rsOf (ops : Array Oper) : List (Nat × Bool) → List RS
  | [] => []
  | (i, b) :: r => match ops[i]? with
    | some o => (if b then RS.op o else RS.re o) :: rsOf ops r
    | none => []
theorem fix_normal (fb f : Fr) (S : St) : fixX fb (.out .normal f S) = .out .normal f S := rfl
theorem fix_pan (fb f : Fr) (a : AV) (S : St) : fixX fb (.out (.pan a) f S) = .out (.pan a) fb S := rfl
theorem thenW_normal (K : Fr → St → Prop) (Q : O → Prop) (f : Fr) (S : St) : thenW K Q (.out .normal f S) = K f S := rfl
theorem thenW_exit (K : Fr → St → Prop) (Q : O → Prop) (id : Nat) (f : Fr) (S : St) : thenW K Q (.out (.exit id) f S) = Q (.out (.exit id) f S) := rfl
theorem thenW_ret (K : Fr → St → Prop) (Q : O → Prop) (f : Fr) (S : St) : thenW K Q (.out .ret f S) = Q (.out .ret f S) := rfl
theorem thenW_pan (K : Fr → St → Prop) (Q : O → Prop) (a : AV) (f : Fr) (S : St) : thenW K Q (.out (.pan a) f S) = Q (.out (.pan a) f S) := rfl
theorem W_sound {E : Env} {n : Nat} : ∀ {c : Code} {f : Fr} {S : St} {Q : O → Prop}, W E n c f S Q → WX E n c f S Q := by
  have up : ∀ {c : Code} {f : Fr} {S : St} {r : O}, (∃ m0, ∀ m, m0 ≤ m → stepC E (drawnNew E) (run E (drawnNew E) m) (ckN E m) n c f S = r) → RT E n c f S r := fun ⟨m0, h⟩ => ⟨m0 + 1, fun m hm => by
    obtain ⟨k, rfl⟩ : ∃ k, m = k + 1 := ⟨m - 1, by omega⟩
    rw [run_succ]; exact h k (by omega)⟩
  intro c
  induction c with
  | skip => intro f S Q h; unfold W at h; exact ⟨_, up ⟨0, fun _ _ => rfl⟩, h⟩
  | label l => intro f S Q h; unfold W at h; exact ⟨_, up ⟨0, fun _ _ => rfl⟩, h⟩
  | region id ops draw =>
    intro f S Q h
    unfold W at h
    cases draw with
    | false =>
      obtain ⟨r, ⟨m0, hm⟩, hq⟩ := WL_sound h
      exact ⟨r, up ⟨m0, fun m hmm => hm m hmm⟩, hq⟩
    | true =>
      obtain ⟨r, ⟨m0, hm⟩, hq⟩ := h
      exact ⟨r, up ⟨m0, fun m hmm => hm m hmm⟩, hq⟩
  | seq a b iha ihb =>
    intro f S Q h
    unfold W at h
    obtain ⟨r, ⟨m0, hm⟩, hq⟩ := iha h
    have other : thenW (fun f' S' => W E n b f' S' Q) Q r = Q r → (∀ m, m0 ≤ m → stepC E (drawnNew E) (run E (drawnNew E) m) (ckN E m) n (.seq a b) f S = r) → WX E n (.seq a b) f S Q := fun e he => ⟨r, up ⟨m0, he⟩, by rw [← e]; exact hq⟩
    cases r with
    | fail => exact other rfl (fun m hmm => by unfold stepC; simp only [hm m hmm])
    | out e f' S' =>
      cases e with
      | normal =>
        obtain ⟨r, ⟨m1, h1⟩, hq⟩ := ihb hq
        exact ⟨r, up ⟨max m0 m1, fun m hmm => by
          unfold stepC; simp only
          rw [hm m (by omega)]; exact h1 m (by omega)⟩, hq⟩
      | exit id => exact other rfl (fun m hmm => by unfold stepC; simp only [hm m hmm])
      | ret => exact other rfl (fun m hmm => by unfold stepC; simp only [hm m hmm])
      | pan a => exact other rfl (fun m hmm => by unfold stepC; simp only [hm m hmm])
  | cond c x y ihx ihy =>
    intro f S Q h
    unfold W at h
    unfold condW at h
    split at h
    · rename_i hc
      obtain ⟨r, ⟨m0, hm⟩, hq⟩ := ihx h
      exact ⟨r, up ⟨m0, fun m hmm => by unfold stepC; simp only [hc]; exact hm m hmm⟩, hq⟩
    · rename_i hc
      obtain ⟨r, ⟨m0, hm⟩, hq⟩ := ihy h
      exact ⟨r, up ⟨m0, fun m hmm => by unfold stepC; simp only [hc]; exact hm m hmm⟩, hq⟩
    · exact h.elim
  | block id c ih =>
    intro f S Q h
    unfold W at h
    obtain ⟨r, ⟨m0, hm⟩, hq⟩ := ih h
    have other : blockW id Q r = Q r → (∀ m, m0 ≤ m → stepC E (drawnNew E) (run E (drawnNew E) m) (ckN E m) n (.block id c) f S = r) → WX E n (.block id c) f S Q := fun e he => ⟨r, up ⟨m0, he⟩, by rw [← e]; exact hq⟩
    cases r with
    | fail => exact other rfl (fun m hmm => by unfold stepC; simp only [hm m hmm])
    | out e f' S' =>
      cases e with
      | exit id' =>
        unfold blockW at hq
        simp only at hq
        by_cases hi : id' = id
        · rw [if_pos hi] at hq
          exact ⟨_, up ⟨m0, fun m hmm => by unfold stepC; simp only [hm m hmm, if_pos hi]⟩, hq⟩
        · rw [if_neg hi] at hq
          exact ⟨_, up ⟨m0, fun m hmm => by unfold stepC; simp only [hm m hmm, if_neg hi]⟩, hq⟩
      | normal => exact other rfl (fun m hmm => by unfold stepC; simp only [hm m hmm])
      | ret => exact other rfl (fun m hmm => by unfold stepC; simp only [hm m hmm])
      | pan a => exact other rfl (fun m hmm => by unfold stepC; simp only [hm m hmm])
  | loop c ih => intro f S Q h; unfold W at h; exact h
  | exit id => intro f S Q h; unfold W at h; exact ⟨_, up ⟨0, fun _ _ => rfl⟩, h⟩
  | ret => intro f S Q h; unfold W at h; exact ⟨_, up ⟨0, fun _ _ => rfl⟩, h⟩
  | _ => intro f S Q h; unfold W at h; exact h.elim
theorem WX.mono {E : Env} {n : Nat} {c : Code} {f : Fr} {S : St} {Q Q' : O → Prop} (h : WX E n c f S Q) (hq : ∀ r, Q r → Q' r) : WX E n c f S Q' := by
  obtain ⟨r, h1, h2⟩ := h; exact ⟨r, h1, hq r h2⟩
theorem WC.mono {E : Env} {k : FuncId} {args : List AV} {S : St} {Q Q' : R → Prop} (h : WC E k args S Q) (hq : ∀ r, Q r → Q' r) : WC E k args S Q' := by
  obtain ⟨r, h1, h2⟩ := h; exact ⟨r, h1, hq r h2⟩
/-- A loop: its body, and then the loop. -/
theorem WX_loop {E : Env} {n : Nat} {c : Code} {f : Fr} {S : St} {Q : O → Prop} (h : WX E n c f S (thenW (fun f' S' => WX E n (.loop c) f' S' Q) Q)) : WX E n (.loop c) f S Q := by
  obtain ⟨r, ⟨m0, hm⟩, hq⟩ := h
  have up : ∀ {r : O}, (∃ m0, ∀ m, m0 ≤ m → stepC E (drawnNew E) (run E (drawnNew E) m) (ckN E m) n (.loop c) f S = r) → RT E n (.loop c) f S r := fun ⟨m0, h⟩ => ⟨m0 + 1, fun m hm => by
    obtain ⟨k, rfl⟩ : ∃ k, m = k + 1 := ⟨m - 1, by omega⟩
    rw [run_succ]; exact h k (by omega)⟩
  have other : thenW (fun f' S' => WX E n (.loop c) f' S' Q) Q r = Q r → (∀ m, m0 ≤ m → stepC E (drawnNew E) (run E (drawnNew E) m) (ckN E m) n (.loop c) f S = r) → WX E n (.loop c) f S Q := fun e he => ⟨r, up ⟨m0, he⟩, by rw [← e]; exact hq⟩
  cases r with
  | fail => exact other rfl (fun m hmm => by unfold stepC; simp only [hm m hmm])
  | out e f' S' =>
    cases e with
    | normal =>
      obtain ⟨r, ⟨m1, h1⟩, hq⟩ := hq
      exact ⟨r, up ⟨max m0 m1, fun m hmm => by
        unfold stepC; simp only
        rw [hm m (by omega)]; exact h1 m (by omega)⟩, hq⟩
    | exit id => exact other rfl (fun m hmm => by unfold stepC; simp only [hm m hmm])
    | ret => exact other rfl (fun m hmm => by unfold stepC; simp only [hm m hmm])
    | pan a => exact other rfl (fun m hmm => by unfold stepC; simp only [hm m hmm])
/-- What a function without deferred calls answers. -/
def giveW (E : Env) (rs : List ResultVar) (f : Fr) (S : St) (Q : R → Prop) : Prop := match f.dfr, resultsA E f.tmps S rs with
  | [], some l => Q (.ret (tupA l) S)
  | _, _ => False
def finW (E : Env) (rs : List ResultVar) (Q : R → Prop) : O → Prop
  | .out .normal f S => giveW E rs f S Q
  | .out .ret f S => giveW E rs f S Q
  | .out (.pan a) f S => f.dfr = [] ∧ Q (.pan a S)
  | _ => False
theorem WC_ext {E : Env} {k : FuncId} {args : List AV} {S : St} {Q : R → Prop} (fn : Func) (hI : E.I k = none) (hF : E.F k = some fn) (hb : fn.body.isSome = true) (hl : args.length ≤ fn.ntmps)
    (h : WX E fn.ntmps (fn.body.getD .skip) ⟨initT args 0, []⟩ S (finW E fn.results.toList Q)) : WC E k args S Q := by
  obtain ⟨r, ⟨m0, hm⟩, hq⟩ := h
  obtain ⟨c, hc⟩ := Option.isSome_iff_exists.1 hb
  have key : ∀ m, m0 ≤ m → ckN E m k args S = endA E (run E (drawnNew E) m) fn r := fun m hmm => by
    show stepF E (run E (drawnNew E) m) k args S = _
    unfold stepF
    rw [hI, hF]
    simp only [hc, if_pos hl]
    have := hm m hmm
    rw [hc] at this
    rw [show run E (drawnNew E) m fn.ntmps c ⟨initT args 0, []⟩ S = r from this]
  have give : ∀ (f : Fr) (S' : St), giveW E fn.results.toList f S' Q → ∃ l, f.dfr = [] ∧ resultsA E f.tmps S' fn.results.toList = some l ∧ Q (.ret (tupA l) S') := fun f S' hg => by
    unfold giveW at hg
    split at hg
    · rename_i l h1 h2; exact ⟨l, h1, h2, hg⟩
    · exact hg.elim
  cases r with
  | fail => exact hq.elim
  | out e f' S' =>
    cases e with
    | normal =>
      obtain ⟨l, h1, h2, h3⟩ := give f' S' hq
      exact ⟨_, ⟨m0, fun m hmm => by rw [key m hmm]; simp only [endA, h1, giveA, h2]⟩, h3⟩
    | ret =>
      obtain ⟨l, h1, h2, h3⟩ := give f' S' hq
      exact ⟨_, ⟨m0, fun m hmm => by rw [key m hmm]; simp only [endA, h1, giveA, h2]⟩, h3⟩
    | pan a => exact ⟨_, ⟨m0, fun m hmm => by rw [key m hmm]; simp only [endA, hq.1]⟩, hq.2⟩
    | exit id => exact hq.elim
theorem WC_fn {E : Env} {k : FuncId} {args : List AV} {S : St} {Q : R → Prop} (fn : Func) (hI : E.I k = none) (hF : E.F k = some fn) (hb : fn.body.isSome = true) (hl : args.length ≤ fn.ntmps)
    (h : W E fn.ntmps (fn.body.getD .skip) ⟨initT args 0, []⟩ S (finW E fn.results.toList Q)) : WC E k args S Q := WC_ext fn hI hF hb hl (W_sound h)
theorem WC_known {E : Env} {k : FuncId} {args : List AV} {S : St} {Q : R → Prop} {g : List AV → St → R} (hI : E.I k = some g) (h : Q (g args S)) : WC E k args S Q :=
  ⟨_, ⟨0, fun m _ => by show stepF E (run E (drawnNew E) m) k args S = _; unfold stepF; rw [hI]⟩, h⟩
/-- Code that is known to end so: the model's. -/
theorem codeW {E : Env} (hE : E.Ok) (hI : IntrOk E) (hmix : E.P.follows .mixedOrders = true) (hG : E.G = fun _ => none) {n t : Nat} {c : Code} {f : T AV} {S : St}
    (h : W E n c ⟨f, []⟩ S (fun r => ∃ f' S', r = .out .ret ⟨f', []⟩ S' ∧ f'.get t = some (.v (.bool true)))) {Q : Exit → Act → World → Prop} {act : Act} {γ : Gh} {base : Nat} {w0 w : World} (hS : SR base w0 γ S w) (hf : FR γ w f act.tmps) (hn : act.tmps.size = n) (hd : act.defers = [])
    (hQ : ∀ act' w', act'.tmps.size = n → act'.defers = [] → act'.tmps[t]? = some (.bool true) → Below base w0 w' → Q .ret act' w') : c.wp E.P Q act w := by
  obtain ⟨r, ⟨m0, hm⟩, f', S', rfl, ht⟩ := W_sound h
  refine (run_sound hE hI (drawnNew_ok hE hmix) m0).code base w0 Q n c γ S w ⟨f, []⟩ act hS ⟨hf, hn, by rw [hd]; trivial⟩ (by rw [hG]; exact GR.none) ?_
  rw [hm m0 (Nat.le_refl _)]
  intro γ' act' w' h1 h2 h3
  show Q .ret act' w'
  obtain ⟨k1, k2⟩ := h3.tmps t _ ht
  have hdd := h3.dfr
  have hd' : act'.defers = [] := by
    cases hx : act'.defers with
    | nil => rfl
    | cons a r => rw [hx] at hdd; exact hdd.elim
  refine hQ act' w' h3.size hd' ?_ h1.below
  have e1 : act'.tmps[t]? = some (act'.tmps[t]) := Array.getElem?_eq_getElem k1
  have e2 : act'.tmps.getD t undef = act'.tmps[t] := by simp [k1]
  rw [e1]
  rw [e2] at k2
  generalize act'.tmps[t] = z at k2
  cases k2
  rfl
/- The same, for simp: no continuation is a function that simp would look into. -/
def seqQ (E : Env) (n : Nat) (b : Code) (Q : O → Prop) : O → Prop := thenW (fun f S => W E n b f S Q) Q
def execL (E : Env) (n : Nat) (ops : Array Oper) (o : Oper) (l : List Oper) (f : Fr) (S : St) (Q : O → Prop) : Option Bool → OR → Prop
  | none, _ => False
  | some false, _ => putW n f o.dst (.tup []) S (fun f' S' => WL E n ops l f' S' Q)
  | some true, x => execW E n o f (fun f' S' => WL E n ops l f' S' Q) Q x
def execR (E : Env) (n : Nat) (ops : Array Oper) (o : Oper) (l : List RS) (f : Fr) (S : St) (Q : O → Prop) : Option Bool → OR → Prop
  | none, _ => False
  | some false, _ => putW n f o.dst (.tup []) S (fun f' S' => WR E n ops l f' S' Q)
  | some true, x => execW E n o f (fun f' S' => WR E n ops l f' S' Q) Q x
def putL (E : Env) (n : Nat) (ops : Array Oper) (l : List Oper) (dst : Option Tmp) (f : Fr) (a : AV) (S : St) (Q : O → Prop) : Prop := putW n f dst a S (fun f' S' => WL E n ops l f' S' Q)
def putRW (E : Env) (n : Nat) (ops : Array Oper) (l : List RS) (dst : Option Tmp) (f : Fr) (a : AV) (S : St) (Q : O → Prop) : Prop := putW n f dst a S (fun f' S' => WR E n ops l f' S' Q)
def retL (E : Env) (n : Nat) (ops : Array Oper) (l : List Oper) (dst : Option Tmp) (f : Fr) (Q : O → Prop) : R → Prop := retW n f dst (fun f' S' => WL E n ops l f' S' Q) Q
def retRW (E : Env) (n : Nat) (ops : Array Oper) (l : List RS) (dst : Option Tmp) (f : Fr) (Q : O → Prop) : R → Prop := retW n f dst (fun f' S' => WR E n ops l f' S' Q) Q
def fixQ (ops : Array Oper) (f : Fr) (Q : O → Prop) : O → Prop := fun r => Q (fixX ⟨eraseT ops.toList f.tmps, f.dfr⟩ r)
section
variable {E : Env} {n : Nat} {f : Fr} {S : St} {Q : O → Prop} {ops : Array Oper} {t : T AV} {ds : List Dfr}
theorem W_skip : W E n .skip f S Q = Q (.out .normal f S) := by unfold W; rfl
theorem W_label {l : Nat} : W E n (.label l) f S Q = Q (.out .normal f S) := by unfold W; rfl
theorem W_region {id : Nat} : W E n (.region id ops false) f S Q = WL E n ops ops.toList f S Q := by unfold W; rfl
theorem W_drawn {id : Nat} : W E n (.region id ops true) f S Q = WD E n ops f S Q := by unfold W; rfl
theorem W_seq {a b : Code} : W E n (.seq a b) f S Q = W E n a f S (seqQ E n b Q) := by show W E n (.seq a b) f S Q = W E n a f S (thenW (fun f S => W E n b f S Q) Q); conv => lhs; unfold W
theorem W_cond {c : Operand} {x y : Code} : W E n (.cond c x y) f S Q = condW (evalO E.G f.tmps c) (W E n x f S Q) (W E n y f S Q) := by conv => lhs; unfold W
theorem W_block {id : Nat} {c : Code} : W E n (.block id c) f S Q = W E n c f S (blockW id Q) := by conv => lhs; unfold W
theorem W_loop {c : Code} : W E n (.loop c) f S Q = WX E n (.loop c) f S Q := by unfold W; rfl
theorem W_exit {id : Nat} : W E n (.exit id) f S Q = Q (.out (.exit id) f S) := by unfold W; rfl
theorem W_ret : W E n .ret f S Q = Q (.out .ret f S) := by unfold W; rfl
theorem seqQ_normal {b : Code} : seqQ E n b Q (.out .normal f S) = W E n b f S Q := rfl
theorem seqQ_exit {b : Code} {id : Nat} : seqQ E n b Q (.out (.exit id) f S) = Q (.out (.exit id) f S) := rfl
theorem seqQ_ret {b : Code} : seqQ E n b Q (.out .ret f S) = Q (.out .ret f S) := rfl
theorem seqQ_pan {b : Code} {a : AV} : seqQ E n b Q (.out (.pan a) f S) = Q (.out (.pan a) f S) := rfl
theorem blockW_normal {id : Nat} : blockW id Q (.out .normal f S) = Q (.out .normal f S) := rfl
theorem blockW_ret {id : Nat} : blockW id Q (.out .ret f S) = Q (.out .ret f S) := rfl
theorem blockW_pan {id : Nat} {a : AV} : blockW id Q (.out (.pan a) f S) = Q (.out (.pan a) f S) := rfl
theorem blockW_exit {id id' : Nat} : blockW id Q (.out (.exit id') f S) = if id' = id then Q (.out .normal f S) else Q (.out (.exit id') f S) := rfl
theorem WL_nil : WL E n ops [] f S Q = Q (.out .normal f S) := rfl
theorem WL_cons {o : Oper} {l : List Oper} : WL E n ops (o :: l) f S Q = execL E n ops o l f S Q (wantedA ops o f.tmps) (exec1 E f.tmps S o) := by
  show stepW E n ops o f S (fun f' S' => WL E n ops l f' S' Q) Q = _
  unfold stepW
  cases wantedA ops o f.tmps with
  | none => rfl
  | some b => cases b <;> rfl
theorem execL_no {o : Oper} {l : List Oper} {x : OR} : execL E n ops o l f S Q (some false) x = putL E n ops l o.dst f (.tup []) S Q := by cases x <;> rfl
theorem execL_val {o : Oper} {l : List Oper} {a : AV} {S' : St} : execL E n ops o l f S Q (some true) (.val a S') = putL E n ops l o.dst f a S' Q := rfl
theorem execL_skip {o : Oper} {l : List Oper} {S' : St} : execL E n ops o l f S Q (some true) (.skip S') = putL E n ops l o.dst f (.tup []) S' Q := rfl
theorem execL_enter {o : Oper} {l : List Oper} {k : FuncId} {args : List AV} {S' : St} : execL E n ops o l f S Q (some true) (.enter k args S') = WC E k args S' (retL E n ops l o.dst f Q) := rfl
theorem execL_dfr {o : Oper} {l : List Oper} {fn : Fn} {caps args : List AV} {S' : St} : execL E n ops o l f S Q (some true) (.dfr fn caps args S') = putL E n ops l o.dst { f with dfr := ⟨fn, caps, args⟩ :: f.dfr } (.tup []) S' Q := rfl
theorem execL_pan {o : Oper} {l : List Oper} {a : AV} {S' : St} : execL E n ops o l f S Q (some true) (.pan a S') = Q (.out (.pan a) f S') := rfl
theorem putL_none {l : List Oper} {a : AV} : putL E n ops l none f a S Q = WL E n ops l f S Q := rfl
theorem putL_some {l : List Oper} {d : Nat} {a : AV} : putL E n ops l (some d) ⟨t, ds⟩ a S Q = (d < n ∧ WL E n ops l ⟨t.set d (some a), ds⟩ S Q) := rfl
theorem retL_ret {l : List Oper} {dst : Option Tmp} {a : AV} : retL E n ops l dst f Q (.ret a S) = putL E n ops l dst f a S Q := rfl
theorem retL_pan {l : List Oper} {dst : Option Tmp} {a : AV} : retL E n ops l dst f Q (.pan a S) = Q (.out (.pan a) f S) := rfl
theorem WR_nil : WR E n ops [] f S Q = Q (.out .normal f S) := rfl
theorem WR_op {o : Oper} {l : List RS} : WR E n ops (.op o :: l) f S Q = execR E n ops o l f S Q (wantedA ops o f.tmps) (exec1 E f.tmps S o) := by
  show stepW E n ops o f S (fun f' S' => WR E n ops l f' S' Q) Q = _
  unfold stepW
  cases wantedA ops o f.tmps with
  | none => rfl
  | some b => cases b <;> rfl
theorem WR_re {o : Oper} {l : List RS} : WR E n ops (.re o :: l) f S Q = (againO E ops o f.tmps S = true ∧ WR E n ops l f S Q) := rfl
theorem execR_no {o : Oper} {l : List RS} {x : OR} : execR E n ops o l f S Q (some false) x = putRW E n ops l o.dst f (.tup []) S Q := by cases x <;> rfl
theorem execR_val {o : Oper} {l : List RS} {a : AV} {S' : St} : execR E n ops o l f S Q (some true) (.val a S') = putRW E n ops l o.dst f a S' Q := rfl
theorem execR_skip {o : Oper} {l : List RS} {S' : St} : execR E n ops o l f S Q (some true) (.skip S') = putRW E n ops l o.dst f (.tup []) S' Q := rfl
theorem execR_enter {o : Oper} {l : List RS} {k : FuncId} {args : List AV} {S' : St} : execR E n ops o l f S Q (some true) (.enter k args S') = WC E k args S' (retRW E n ops l o.dst f Q) := rfl
theorem execR_pan {o : Oper} {l : List RS} {a : AV} {S' : St} : execR E n ops o l f S Q (some true) (.pan a S') = Q (.out (.pan a) f S') := rfl
theorem putRW_none {l : List RS} {a : AV} : putRW E n ops l none f a S Q = WR E n ops l f S Q := rfl
theorem putRW_some {l : List RS} {d : Nat} {a : AV} : putRW E n ops l (some d) ⟨t, ds⟩ a S Q = (d < n ∧ WR E n ops l ⟨t.set d (some a), ds⟩ S Q) := rfl
theorem retRW_ret {l : List RS} {dst : Option Tmp} {a : AV} : retRW E n ops l dst f Q (.ret a S) = putRW E n ops l dst f a S Q := rfl
theorem retRW_pan {l : List RS} {dst : Option Tmp} {a : AV} : retRW E n ops l dst f Q (.pan a S) = Q (.out (.pan a) f S) := rfl
theorem condW_t {x y : Prop} : condW (some (.v (.bool true))) x y = x := rfl
theorem condW_f {x y : Prop} : condW (some (.v (.bool false))) x y = y := rfl
theorem fixQ_normal {g : Fr} : fixQ ops g Q (.out .normal f S) = Q (.out .normal f S) := rfl
theorem fixQ_pan {g : Fr} {a : AV} : fixQ ops g Q (.out (.pan a) f S) = Q (.out (.pan a) ⟨eraseT ops.toList g.tmps, g.dfr⟩ S) := rfl
/-- A drawn region, by one order: numbers of operations, true, or a look again, false. -/
theorem WD_by (l : List (Nat × Bool)) (h2 : static ops (bm ops.toList []) (eager ops (bm ops.toList []) ops.size (List.range ops.size) 0) = true)
    (h3 : stepsD ops (bm ops.toList []) (eager ops (bm ops.toList []) ops.size (List.range ops.size) 0) [] = some (rsOf ops l)) (h : WR E n ops (rsOf ops l) f S (fixQ ops f Q)) : WD E n ops f S Q := WD_steps h3 h2 h
theorem WD_byFl (l : List (Nat × Bool)) {x : FlP} (h1 : flFind E.P ops = some x) (h2 : allSteps ops x = some (rsOf ops l)) (h3 : x.d < n) (h : WR E n ops (rsOf ops l) ⟨f.tmps.set x.d none, f.dfr⟩ S (fixQ ops f Q)) : WD E n ops f S Q := WD_fl h1 h2 h3 h
theorem WD_two (l1 l2 : List (Nat × Bool)) (h0 : flFind E.P ops = none) (h1 : mkFind E.P ops = none) (h2 : mk2Find E.P ops = none) (ht : isTwo ops = true)
    (h3 : stepsD ops (bm ops.toList []) (eager ops (bm ops.toList []) ops.size (List.range ops.size) 0) [] = some (rsOf ops l1)) (h4 : stepsD ops (bm ops.toList []) (swapE (eager ops (bm ops.toList []) ops.size (List.range ops.size) 0)) [] = some (rsOf ops l2))
    (h : WR E n ops (rsOf ops l1) f S (fun r => ∃ f' S', r = .out .normal f' S' ∧ WR E n ops (rsOf ops l2) f S (fun r2 => r2 = .out .normal f' S') ∧ Q (.out .normal f' S'))) : WD E n ops f S Q := by
  obtain ⟨r, ⟨m0, hm⟩, hne, f', S', rfl, hw2, hq⟩ := WR_sound h
  obtain ⟨r2, ⟨m2, hm2⟩, hne2, rfl⟩ := WR_sound hw2
  refine ⟨_, ⟨max m0 m2, fun m hmm => ?_⟩, hq⟩
  unfold drawnNew
  rw [h0]
  simp only [h1, h2, ht, if_true]
  have k1 : drun E (ckN E m) n ops (bm ops.toList []) ⟨eraseT ops.toList f.tmps, f.dfr⟩ (eager ops (bm ops.toList []) ops.size (List.range ops.size) 0) f S [] = .out .normal f' S' := by
    rcases drun_steps (E := E) (ck := ckN E m) (n := n) (fb := ⟨eraseT ops.toList f.tmps, f.dfr⟩) _ _ f S [] h3 (fun _ h => absurd h List.not_mem_nil) with h | h
    · rw [hm m (by omega)] at h; cases h
    · rw [h, hm m (by omega)]; rfl
  have k2 : drun E (ckN E m) n ops (bm ops.toList []) ⟨eraseT ops.toList f.tmps, f.dfr⟩ (swapE (eager ops (bm ops.toList []) ops.size (List.range ops.size) 0)) f S [] = .out .normal f' S' := by
    rcases drun_steps (E := E) (ck := ckN E m) (n := n) (fb := ⟨eraseT ops.toList f.tmps, f.dfr⟩) _ _ f S [] h4 (fun _ h => absurd h List.not_mem_nil) with h | h
    · rw [hm2 m (by omega)] at h; cases h
    · rw [h, hm2 m (by omega)]; rfl
  unfold drawnTwo
  simp only
  rw [k1, k2, if_pos rfl]
theorem rsOf_nil : rsOf ops [] = [] := rfl
theorem finW_ret {rs : List ResultVar} {Q : R → Prop} : finW E rs Q (.out .ret f S) = giveW E rs f S Q := rfl
theorem finW_normal {rs : List ResultVar} {Q : R → Prop} : finW E rs Q (.out .normal f S) = giveW E rs f S Q := rfl
theorem finW_pan {rs : List ResultVar} {Q : R → Prop} {a : AV} : finW E rs Q (.out (.pan a) ⟨t, []⟩ S) = Q (.pan a S) := by show (_ ∧ _) = _; simp
end
end Go.Ax
noncomputable section
namespace Go.Ax
open Go.RowKit
set_option linter.unusedVariables false
set_option linter.unusedSimpArgs false
/-- The names below a number. -/
def Gh.below (γ : Gh) (n : Nat) : Gh := { γ with loc := fun i => if i < n then γ.loc i else none }
theorem below_loc {γ : Gh} {n id : Nat} {x : Nat × Nat} (h : γ.loc id = some x) (hid : id < n) : (γ.below n).loc id = some x := by
  show (if id < n then γ.loc id else none) = some x
  rw [if_pos hid]; exact h
/-- A value that was there by old names is there by these alone. -/
theorem VR.restrict {γ γ' : Gh} {w w' : World} {n : Nat} (hf : ∀ id, n ≤ id → γ.loc id = none) {a : AV} {x' : Value} (h' : VR γ' w' a x') : ∀ {x : Value}, VR γ w a x → VR (γ'.below n) w' a x' := by
  have lt : ∀ {id y}, γ.loc id = some y → id < n := fun {id y} h => by
    by_cases hq : id < n
    · exact hq
    · rw [hf id (by omega)] at h; cases h
  induction h' with
  | v x h => intro _ _; exact .v x h
  | nilp => intro _ _; exact .nilp
  | ptr id off b s h =>
    intro x hx
    cases hx with
    | ptr _ _ b2 s2 h2 => exact .ptr id off b s (below_loc h (lt h2))
  | ep cs b o c h h1 hr ih =>
    intro x hx
    cases hx with
    | ep _ b2 o2 c2 k1 k2 k3 => exact .ep cs b o c h h1 (fun k hk => ih k hk (k3 k hk))
  | nils => intro _ _; exact .nils
  | sl tok off sz es b o cap c hsz hes h1 h hr ht hf2 hc hb ih =>
    intro x hx
    cases hx with
    | sl _ _ _ _ b2 o2 cap2 c2 k1 k2 k3 k4 k5 k6 k7 k8 k9 =>
      refine .sl tok off sz es b o cap c hsz hes h1 h (fun k hk => ih k hk (k5 k hk)) (fun h2 => ?_) hf2 hc hb
      obtain ⟨s, q1, q2⟩ := ht h2
      obtain ⟨s2, q3, q4⟩ := k6 h2
      exact ⟨s, below_loc q1 (lt q3), q2⟩
  | nilm => intro _ _; exact .nilm
  | map id b s h =>
    intro x hx
    cases hx with
    | map _ b2 s2 h2 => exact .map id b s (below_loc h (lt h2))
  | fn f first caps x y hx hy h1 h2 ih1 ih2 =>
    intro z hz
    cases hz with
    | fn _ _ _ x2 y2 k1 k2 k3 k4 => exact .fn f first caps x y hx hy (fun k hk hk' => ih1 k hk hk' (k3 k hk (by omega))) (fun k hk hk' => ih2 k hk hk' (k4 k hk (by omega)))
  | iface t a x h ih =>
    intro z hz
    cases hz with
    | iface _ _ x2 h2 => exact .iface t a x (ih h2)
  | agg cs x hx h1 h ih =>
    intro z hz
    cases hz with
    | agg _ x2 k1 k2 k3 => exact .agg cs x hx h1 (fun k hk hk' => ih k hk hk' (k3 k hk (by omega)))
  | tup vs x hx h ih =>
    intro z hz
    cases hz with
    | tup _ x2 k1 k2 => exact .tup vs x hx (fun k hk hk' => ih k hk hk' (k2 k hk (by omega)))
  | bs id off n2 sz b s cap h hc hsz hb =>
    intro z hz
    cases hz with
    | bs _ _ _ _ b2 s2 cap2 h2 _ _ _ => exact .bs id off n2 sz b s cap (below_loc h (lt h2)) hc hsz hb
/-- A value that says nothing of names of the run's own. -/
def AV.old (n : Nat) : AV → Prop
  | .v _ => True
  | _ => False
theorem SR.forget {base : Nat} {w0 w w' : World} {γ γ' : Gh} {S S' : St} (h : SR base w0 γ S w) (h' : SR base w0 γ' S' w') (x : Ext γ S w γ' S' w') (hk : ∀ id, id < S.next → S'.mem.get id = S.mem.get id) : SR base w0 (γ'.below S.next) S w' ∧ Ext γ S w (γ'.below S.next) S w' := by
  have lt : ∀ {id y}, γ.loc id = some y → id < S.next := fun {id y} hl => by
    by_cases hq : id < S.next
    · exact hq
    · rw [(h.fresh id (by omega)).1] at hl; cases hl
  have ltm : ∀ {id c}, S.mem.get id = some c → id < S.next := fun {id c} hm => by
    by_cases hq : id < S.next
    · exact hq
    · rw [(h.fresh id (by omega)).2] at hm; cases hm
  have hf : ∀ id, S.next ≤ id → γ.loc id = none := fun id hid => (h.fresh id hid).1
  have ev : Ev γ w (γ'.below S.next) w' := ⟨fun id y hl => below_loc (x.ev.loc id y hl) (lt hl), x.ev.im, x.ev.cell, x.ev.blk⟩
  have bl : ∀ {id y}, (γ'.below S.next).loc id = some y → γ'.loc id = some y ∧ id < S.next := fun {id y} hl => by
    have hl : (if id < S.next then γ'.loc id else none) = some y := hl
    split at hl
    · exact ⟨hl, by assumption⟩
    · cases hl
  refine ⟨⟨h'.below, h'.hbase, h'.imc, fun id hid => ⟨?_, (h.fresh id hid).2⟩, h.pos, fun id b s hl => h'.inb id b s (bl hl).1, fun id c hm => ?_, fun id id' c c' b s s' e1 e2 l1 l2 => ?_⟩,
    ⟨ev, Nat.le_refl _, fun id hid => ?_, x.size, fun id c b s hm hl => ?_, fun b hb hn => x.frame b hb hn⟩⟩
  · show (if id < S.next then γ'.loc id else none) = none
    rw [if_neg (by omega)]
  · obtain ⟨b0, s0, m1, m2, m3⟩ := h.live id c hm
    have hm' : S'.mem.get id = some c := by rw [hk id (ltm hm)]; exact hm
    obtain ⟨b, s, l1, l2, l3⟩ := h'.live id c hm'
    refine ⟨b, s, below_loc l1 (ltm hm), l2, ?_⟩
    cases c with
    | box cs =>
      obtain ⟨h0, h1, h2, arr, T, xx, yy, ha, hx, hr⟩ := l3
      obtain ⟨_, _, _, arr0, T0, x0, y0, ha0, hx0, hr0⟩ := m3
      exact ⟨h0, h1, h2, arr, T, xx, yy, ha, hx, hr.1, fun k hk1 hk2 => (hr.2 k hk1 hk2).restrict hf (hr0.2 k hk1 (by rw [hr0.1]; exact hk1))⟩
    | tip m => exact l3
    | mp es =>
      obtain ⟨h0, ms, clock, ha, hl, hv⟩ := l3
      obtain ⟨_, ms0, clock0, ha0, hl0, hv0⟩ := m3
      exact ⟨h0, ms, clock, ha, hl, fun k hk1 hk2 => ⟨(hv k hk1 hk2).1, (hv k hk1 hk2).2.restrict hf (hv0 k hk1 (by omega)).2⟩⟩
  · have m1 := ltm e1; have m2 := ltm e2
    exact h'.inj id id' c c' b s s' (by rw [hk id m1]; exact e1) (by rw [hk id' m2]; exact e2) (bl l1).1 (bl l2).1
  · show (if id < S.next then γ'.loc id else none) = γ.loc id
    rw [if_pos hid]; exact x.same id hid
  · exact x.liv id c b s (by rw [hk id (ltm hm)]; exact hm) (bl hl).1
end Go.Ax
noncomputable section
namespace Go.Ax
open Go.RowKit
set_option linter.unusedVariables false
set_option linter.unusedSimpArgs false
mutual
/-- The same value, with no name of the run's own. -/
def clean : AV → AV
  | .sl _ _ sz es => .sl 0 0 sz (cleanL es)
  | .agg cs => .agg (cleanL cs)
  | .tup vs => .tup (cleanL vs)
  | .v x => .v x
  | .nilp => .nilp
  | .nils => .nils
  | .nilm => .nilm
  | .ptr a b => .ptr a b
  | .ep cs => .ep cs
  | .map id => .map id
  | .fn f a b => .fn f a b
  | .iface t x => .iface t x
  | .bs a b c d => .bs a b c d
def cleanL : List AV → List AV
  | [] => []
  | a :: r => clean a :: cleanL r
end
mutual
/-- Does it point to nothing that may change? -/
def freeV : AV → Bool
  | .sl _ _ _ es => freeL es
  | .agg cs => freeL cs
  | .tup vs => freeL vs
  | .v _ => true
  | .nilp => true
  | .nils => true
  | .nilm => true
  | .ptr _ _ => false
  | .ep _ => false
  | .map _ => false
  | .fn _ _ _ => false
  | .iface _ _ => false
  | .bs _ _ _ _ => false
def freeL : List AV → Bool
  | [] => true
  | a :: r => freeV a && freeL r
end
theorem cleanL_map : ∀ es, cleanL es = es.map clean
  | [] => rfl
  | a :: r => by rw [cleanL, cleanL_map r]; rfl
theorem freeL_all : ∀ {es}, freeL es = true → ∀ a ∈ es, freeV a = true
  | [], _, a, h => by cases h
  | b :: r, h, a, ha => by
    rw [freeL, Bool.and_eq_true] at h
    rcases List.mem_cons.1 ha with rfl | ha
    · exact h.1
    · exact freeL_all h.2 a ha
theorem clean_one (a : AV) : (clean a).one = a.one := by cases a <;> rfl
theorem clean_cells (a : AV) : (clean a).cells = a.cells.map clean := by
  cases a <;> first | rfl | skip
  · show cleanL _ = _; rw [cleanL_map]; rfl
theorem flat_clean : ∀ es : List AV, flat (es.map clean) = (flat es).map clean
  | [] => rfl
  | a :: r => by
    unfold flat
    rw [List.map_cons, List.flatMap_cons, List.flatMap_cons, List.map_append, clean_cells]
    have := flat_clean r
    unfold flat at this
    rw [this]
theorem freeV_cells {a : AV} (h : freeV a = true) : ∀ c ∈ a.cells, freeV c = true := by
  cases a with
  | agg cs => exact freeL_all h
  | _ => intro c hc; simp only [AV.cells, List.mem_cons, List.not_mem_nil, or_false] at hc; subst hc; exact h
theorem free_flat {es : List AV} (h : freeL es = true) : ∀ c ∈ flat es, freeV c = true := by
  intro c hc
  unfold flat at hc
  rw [List.mem_flatMap] at hc
  obtain ⟨e, he, hce⟩ := hc
  exact freeV_cells (freeL_all h e he) c hce
/-- What points to nothing that may change stands for the same by any names, as long as the cells that stay are known to. -/
theorem VR.clean {γ γ' : Gh} {w : World} (him : ∀ b o, γ.im b o → γ'.im b o) {a : AV} {x : Value} (h : VR γ w a x) : freeV a = true → VR γ' w (Go.Ax.clean a) x := by
  induction h with
  | v x h => intro _; exact .v x h
  | nilp => intro _; exact .nilp
  | ptr id off b s h => intro hf; cases hf
  | ep cs b o c h h1 hr ih => intro hf; cases hf
  | nils => intro _; exact .nils
  | sl tok off sz es b o cap c hsz hes h1 h hr ht hf2 hc hb ih =>
    intro hf
    have hf : freeL es = true := hf
    show VR γ' w (.sl 0 0 sz (cleanL es)) _
    rw [cleanL_map]
    have hlen : (flat (es.map Go.Ax.clean)).length = (flat es).length := by rw [flat_clean, List.length_map]
    have key := VR.sl (γ := γ') (w := w) 0 0 sz (es.map Go.Ax.clean) b o cap c hsz (fun e he => by
        obtain ⟨e', he', rfl⟩ := List.mem_map.1 he
        rw [clean_cells, List.length_map]; exact hes e' he') (fun y hy => by
        rw [flat_clean] at hy
        obtain ⟨y', hy', rfl⟩ := List.mem_map.1 hy
        rw [clean_one]; exact h1 y' hy') (fun k hk => ⟨him _ _ (h k (by rw [← hlen]; exact hk)).1, (h k (by rw [← hlen]; exact hk)).2⟩) (fun k hk => by
        have hk' : k < (flat es).length := by rw [← hlen]; exact hk
        have := ih k hk' (free_flat hf _ (List.getElem_mem hk'))
        have e : (flat (es.map Go.Ax.clean))[k] = Go.Ax.clean (flat es)[k] := by
          simp only [flat_clean, List.getElem_map]
        rw [e]; exact this) (fun h => by omega) (fun h => by omega) (by rw [List.length_map]; exact hc) hb
    rw [List.length_map] at key
    exact key
  | nilm => intro _; exact .nilm
  | map id b s h => intro hf; cases hf
  | fn f first caps x y hx hy h1 h2 ih1 ih2 => intro hf; cases hf
  | iface t a x h ih => intro hf; cases hf
  | agg cs x hx h1 h ih =>
    intro hf
    have hf : freeL cs = true := hf
    show VR γ' w (.agg (cleanL cs)) _
    rw [cleanL_map]
    refine .agg _ x (by rw [hx, List.length_map]) (fun a ha => ?_) (fun k hk hk' => ?_)
    · obtain ⟨a', ha', rfl⟩ := List.mem_map.1 ha
      rw [clean_one]; exact h1 a' ha'
    · rw [List.getElem_map]
      have hk2 : k < cs.length := by rw [List.length_map] at hk; exact hk
      exact ih k hk2 hk' (freeL_all hf _ (List.getElem_mem hk2))
  | tup vs x hx h ih =>
    intro hf
    have hf : freeL vs = true := hf
    show VR γ' w (.tup (cleanL vs)) _
    rw [cleanL_map]
    refine .tup _ x (by rw [hx, List.length_map]) (fun k hk hk' => ?_)
    rw [List.getElem_map]
    have hk2 : k < vs.length := by rw [List.length_map] at hk; exact hk
    exact ih k hk2 hk' (freeL_all hf _ (List.getElem_mem hk2))
  | bs id off n2 sz b s cap h hc hsz hb => intro hf; cases hf
/-- More cells are known to stay. -/
def Gh.more (γ γ1 : Gh) : Gh := { γ with im := fun b o => γ.im b o ∨ γ1.im b o }
theorem SR.more {base : Nat} {w0 w w' : World} {γ γ1 : Gh} {S : St} (h : SR base w0 γ S w) (hb : Below w.heap.size w w') (hi : ∀ b o, γ1.im b o → w.heap.size ≤ b ∧ ∃ v, w'.cell? ⟨b, o, none⟩ = some v) : SR base w0 (γ.more γ1) S w' ∧ Ext γ S w (γ.more γ1) S w' := by
  have hc : ∀ b o v, w.cell? ⟨b, o, none⟩ = some v → w'.cell? ⟨b, o, none⟩ = some v := fun b o v hv => (hb.cell (World.block_lt_of_cell? w _ hv)).trans hv
  have ev : Ev γ w (γ.more γ1) w' := ⟨fun _ _ h => h, fun _ _ h => .inl h, fun b o v _ hv => hc b o v hv, fun b arr T fr ha => ⟨arr, fr, (hb.block b (Array.getElem?_eq_some_iff.1 ha).1).trans ha, rfl⟩⟩
  have him : ∀ b, b < w.heap.size → ∀ o, (γ.more γ1).im b o → γ.im b o := fun b hlt o ho => ho.elim id (fun h => by have := (hi b o h).1; omega)
  refine ⟨⟨h.below.trans (hb.mono h.hbase), Nat.le_trans h.hbase hb.size, fun b o ho => ?_, h.fresh, h.pos, fun id b s e => Nat.lt_of_lt_of_le (h.inb id b s e) hb.size, fun id c e => ?_, h.inj⟩,
    ⟨ev, Nat.le_refl _, fun _ _ => rfl, hb.size, fun id c b s h l => .inr ⟨id, c, s, h, l⟩, fun b hl _ => ⟨hb.block b hl, him b hl⟩⟩⟩
  · rcases ho with ho | ho
    · obtain ⟨v, hv⟩ := h.imc b o ho; exact ⟨v, hc b o v hv⟩
    · exact (hi b o ho).2
  · obtain ⟨b, s, h1, h2, h3⟩ := h.live id c e
    exact ⟨b, s, h1, h2, h3.keep ev (hb.block b (h.inb id b s h1)) (fun o => him b (h.inb id b s h1) o)⟩
/-- What a run answers, cleaned. -/
def cleanR : R → Option AV
  | .ret a _ => Bool.rec none (some (clean a)) (freeV a)
  | _ => none
theorem memo {E : Env} (hE : E.Ok) (hI : IntrOk E) (hmix : E.P.follows .mixedOrders = true) (hG : E.G = fun _ => none) {m : Nat} {k : FuncId} {args : List AV} {a : AV} (h : cleanR (callX E m k args St0) = some a) (hF : (E.F k).isSome = true)
    {base : Nat} {w0 : World} {γ : Gh} {S : St} {w : World} {vs : List Value} (hS : SR base w0 γ S w) (hv : VRL Gh0 w args vs) : Calls E.P k vs.toArray w (RetOk base w0 γ S w (.ret a S)) := by
  cases hr : callX E m k args St0 with
  | fail => rw [hr] at h; cases h
  | pan a S => rw [hr] at h; cases h
  | ret a1 S1 =>
    rw [hr] at h
    have hne : callX E m k args St0 ≠ .fail := by rw [hr]; exact fun e => by cases e
    have := callX_ok hE hI hmix m w.heap.size w k args St0 hne Gh0 w vs (SR.start w) (by rw [hG]; exact GR.none) hv hF
    rw [hr] at this
    refine this.mono fun e w' he => ?_
    obtain ⟨γ', v, h1, h2, h3, rfl⟩ := he
    cases hf : freeV a1 with
    | false => simp only [cleanR, hf] at h; cases h
    | true =>
      simp only [cleanR, hf] at h
      injection h with h; subst h
      have hi : ∀ b o, γ'.im b o → w.heap.size ≤ b ∧ ∃ v, w'.cell? ⟨b, o, none⟩ = some v := fun b o ho => by
        refine ⟨?_, h1.imc b o ho⟩
        by_cases hlt : b < w.heap.size
        · exact ((h2.frame b hlt (fun id c s hm hl => by cases hl)).2 o ho).elim
        · omega
      obtain ⟨q1, q2⟩ := hS.more h1.below hi
      exact ⟨_, v, q1, q2, h3.clean (γ' := γ.more γ') (fun b o ho => Or.inr ho) hf, rfl⟩
end Go.Ax
noncomputable section
namespace Go.Ax
open Go.RowKit
set_option linter.unusedVariables false
set_option linter.unusedSimpArgs false
mutual
/-- All names are below a number. -/
def ltV (n : Nat) : AV → Bool
  | .sl tok _ _ es => Nat.blt tok n && ltL n es
  | .agg cs => ltL n cs
  | .tup vs => ltL n vs
  | .v _ => true
  | .nilp => true
  | .nils => true
  | .nilm => true
  | .ptr id _ => Nat.blt id n
  | .ep cs => ltL n cs
  | .map id => Nat.blt id n
  | .fn _ a b => ltL n a && ltL n b
  | .iface _ x => ltV n x
  | .bs id _ _ _ => Nat.blt id n
def ltL (n : Nat) : List AV → Bool
  | [] => true
  | a :: r => ltV n a && ltL n r
end
theorem ltL_all {n : Nat} : ∀ {es : List AV}, ltL n es = true → ∀ a ∈ es, ltV n a = true
  | [], _, a, h => by cases h
  | b :: r, h, a, ha => by
    rw [ltL, Bool.and_eq_true] at h
    rcases List.mem_cons.1 ha with rfl | ha
    · exact h.1
    · exact ltL_all h.2 a ha
theorem lt_cells {n : Nat} {a : AV} (h : ltV n a = true) : ∀ c ∈ a.cells, ltV n c = true := by
  cases a with
  | agg cs => exact ltL_all h
  | _ => intro c hc; simp only [AV.cells, List.mem_cons, List.not_mem_nil, or_false] at hc; subst hc; exact h
theorem lt_flat {n : Nat} {es : List AV} (h : ltL n es = true) : ∀ c ∈ flat es, ltV n c = true := by
  intro c hc
  unfold flat at hc
  rw [List.mem_flatMap] at hc
  obtain ⟨e, he, hce⟩ := hc
  exact lt_cells (ltL_all h e he) c hce
theorem blt_lt {a b : Nat} (h : Nat.blt a b = true) : a < b := by
  have : a + 1 ≤ b := by simpa [Nat.blt] using h
  omega
/-- What a value is by some names it is by others that are the same below a number. -/
theorem VR.names {γ γ' : Gh} {w : World} {n : Nat} (hl : ∀ id, id < n → ∀ x, γ.loc id = some x → γ'.loc id = some x) (him : ∀ b o, γ.im b o → γ'.im b o) {a : AV} {x : Value} (h : VR γ w a x) : ltV n a = true → VR γ' w a x := by
  induction h with
  | v x h => intro _; exact .v x h
  | nilp => intro _; exact .nilp
  | ptr id off b s h => intro hf; exact .ptr id off b s (hl id (blt_lt hf) _ h)
  | ep cs b o c h h1 hr ih =>
    intro hf
    have hf : ltL n cs = true := hf
    exact .ep cs b o c (fun k hk => ⟨him _ _ (h k hk).1, (h k hk).2⟩) h1 (fun k hk => ih k hk (ltL_all hf _ (List.getElem_mem hk)))
  | nils => intro _; exact .nils
  | sl tok off sz es b o cap c hsz hes h1 h hr ht hf2 hc hb ih =>
    intro hf
    have hf : (Nat.blt tok n && ltL n es) = true := hf
    rw [Bool.and_eq_true] at hf
    refine .sl tok off sz es b o cap c hsz hes h1 (fun k hk => ⟨him _ _ (h k hk).1, (h k hk).2⟩) (fun k hk => ih k hk (lt_flat hf.2 _ (List.getElem_mem hk))) (fun h2 => ?_) hf2 hc hb
    obtain ⟨s, q1, q2⟩ := ht h2
    exact ⟨s, hl tok (blt_lt hf.1) _ q1, q2⟩
  | nilm => intro _; exact .nilm
  | map id b s h => intro hf; exact .map id b s (hl id (blt_lt hf) _ h)
  | fn f first caps x y hx hy h1 h2 ih1 ih2 =>
    intro hf
    have hf : (ltL n first && ltL n caps) = true := hf
    rw [Bool.and_eq_true] at hf
    exact .fn f first caps x y hx hy (fun k hk hk' => ih1 k hk hk' (ltL_all hf.1 _ (List.getElem_mem hk))) (fun k hk hk' => ih2 k hk hk' (ltL_all hf.2 _ (List.getElem_mem hk)))
  | iface t a x h ih => intro hf; exact .iface t a x (ih hf)
  | agg cs x hx h1 h ih =>
    intro hf
    have hf : ltL n cs = true := hf
    exact .agg cs x hx h1 (fun k hk hk' => ih k hk hk' (ltL_all hf _ (List.getElem_mem hk)))
  | tup vs x hx h ih =>
    intro hf
    have hf : ltL n vs = true := hf
    exact .tup vs x hx (fun k hk hk' => ih k hk hk' (ltL_all hf _ (List.getElem_mem hk)))
  | bs id off n2 sz b s cap h hc hsz hb => intro hf; exact .bs id off n2 sz b s cap (hl id (blt_lt hf) _ h) hc hsz hb
theorem VRL.names {γ γ' : Gh} {w : World} {n : Nat} (hl : ∀ id, id < n → ∀ x, γ.loc id = some x → γ'.loc id = some x) (him : ∀ b o, γ.im b o → γ'.im b o) {a : List AV} {x : List Value} (h : VRL γ w a x) (hf : ltL n a = true) : VRL γ' w a x :=
  ⟨h.1, fun k hk hk' => (h.2 k hk hk').names hl him (ltL_all hf _ (List.getElem_mem hk))⟩
/-- A box whose values name what is below a number. -/
def okC (n : Nat) : Option Cell → Bool
  | some (.box cs) => ltL n cs
  | _ => false
theorem okC_box {n : Nat} {c : Option Cell} (h : okC n c = true) : ∃ cs, c = some (.box cs) ∧ ltL n cs = true := by
  unfold okC at h
  split at h
  · exact ⟨_, rfl, h⟩
  · cases h
def subM (S : St) : List Nat → T Cell
  | [] => .leaf
  | i :: r => T.set (subM S r) i (S.mem.get i)
def backM (S S' : St) : List Nat → T Cell
  | [] => S.mem
  | i :: r => T.set (backM S S' r) i (S'.mem.get i)
theorem subM_get (S : St) : ∀ (l : List Nat) (j : Nat), (j ∈ l → (subM S l).get j = S.mem.get j) ∧ (j ∉ l → (subM S l).get j = none)
  | [], j => ⟨fun h => absurd h List.not_mem_nil, fun _ => rfl⟩
  | i :: r, j => by
    unfold subM
    rw [T.get_set]
    have := subM_get S r j
    refine ⟨fun h => ?_, fun h => ?_⟩
    · split
      · rename_i e; rw [e]
      · rename_i e; exact this.1 ((List.mem_cons.1 h).resolve_left e)
    · rw [if_neg (fun e => h (by rw [e]; exact List.mem_cons_self ..))]
      exact this.2 (fun h2 => h (List.mem_cons_of_mem _ h2))
theorem backM_get (S S' : St) : ∀ (l : List Nat) (j : Nat), (j ∈ l → (backM S S' l).get j = S'.mem.get j) ∧ (j ∉ l → (backM S S' l).get j = S.mem.get j)
  | [], j => ⟨fun h => absurd h List.not_mem_nil, fun _ => rfl⟩
  | i :: r, j => by
    unfold backM
    rw [T.get_set]
    have := backM_get S S' r j
    refine ⟨fun h => ?_, fun h => ?_⟩
    · split
      · rename_i e; rw [e]
      · rename_i e; exact this.1 ((List.mem_cons.1 h).resolve_left e)
    · rw [if_neg (fun e => h (by rw [e]; exact List.mem_cons_self ..))]
      exact this.2 (fun h2 => h (List.mem_cons_of_mem _ h2))
def smallIn (N : Nat) (ids : List Nat) (args : List AV) (S : St) : Bool := ids.all (fun i => Nat.blt i N && okC N (S.mem.get i)) && ltL N args && Nat.ble N S.next && Nat.ble 2 N
def smallOut (N : Nat) (ids : List Nat) (S : St) : R → R
  | .ret a S' => Bool.rec .fail (.ret (clean a) ⟨S.next, backM S S' ids⟩) (freeV a && ids.all (fun i => okC N (S'.mem.get i)))
  | _ => .fail
/-- A function that is run where there are these boxes alone. -/
def viaSmall (E : Env) (m k N : Nat) (ids : List Nat) (args : List AV) (S : St) : R := Bool.rec .fail (smallOut N ids S (callX E m k args ⟨N, subM S ids⟩)) (smallIn N ids args S)
theorem viaSmall_ok {E : Env} (hE : E.Ok) (hI : IntrOk E) (hmix : E.P.follows .mixedOrders = true) (hG : E.G = fun _ => none) {m k N : Nat} (hF : (E.F k).isSome = true) (ids : List Nat) (base : Nat) (w0 : World) (args : List AV) (S : St) (hne : viaSmall E m k N ids args S ≠ .fail) (γ : Gh) (w : World) (vs : List Value) (hS : SR base w0 γ S w) (hv : VRL γ w args vs) :
    Calls E.P k vs.toArray w (RetOk base w0 γ S w (viaSmall E m k N ids args S)) := by
  unfold viaSmall at hne ⊢
  cases hin : smallIn N ids args S with
  | false => rw [hin] at hne; exact absurd rfl hne
  | true =>
  rw [hin] at hne
  have hne : smallOut N ids S (callX E m k args ⟨N, subM S ids⟩) ≠ .fail := hne
  show Calls E.P k vs.toArray w (RetOk base w0 γ S w (smallOut N ids S (callX E m k args ⟨N, subM S ids⟩)))
  unfold smallIn at hin
  simp only [Bool.and_eq_true] at hin
  obtain ⟨⟨⟨i1, i2⟩, i3⟩, i4⟩ := hin
  have hN : N ≤ S.next := Nat.le_of_ble_eq_true i3
  have hids : ∀ i ∈ ids, i < N ∧ ∃ cs, S.mem.get i = some (.box cs) ∧ ltL N cs = true := fun i hi => by
    have := List.all_eq_true.1 i1 i hi
    rw [Bool.and_eq_true] at this
    exact ⟨blt_lt this.1, okC_box this.2⟩
  cases hr : callX E m k args ⟨N, subM S ids⟩ with
  | fail => rw [hr] at hne; exact absurd rfl hne
  | pan a S' => rw [hr] at hne; exact absurd rfl hne
  | ret a S' =>
  rw [hr] at hne
  cases hf : (freeV a && ids.all (fun i => okC N (S'.mem.get i))) with
  | false =>
    have e : smallOut N ids S (.ret a S') = .fail := by
      show (Bool.rec R.fail (R.ret (clean a) ⟨S.next, backM S S' ids⟩) (freeV a && ids.all (fun i => okC N (S'.mem.get i))) : R) = _
      rw [hf]
    exact absurd e hne
  | true =>
  have e : smallOut N ids S (.ret a S') = .ret (clean a) ⟨S.next, backM S S' ids⟩ := by
    show (Bool.rec R.fail (R.ret (clean a) ⟨S.next, backM S S' ids⟩) (freeV a && ids.all (fun i => okC N (S'.mem.get i))) : R) = _
    rw [hf]
  rw [e]
  rw [Bool.and_eq_true] at hf
  have hout : ∀ i ∈ ids, ∃ cs, S'.mem.get i = some (.box cs) ∧ ltL N cs = true := fun i hi => okC_box (List.all_eq_true.1 hf.2 i hi)
  -- the few boxes
  have subOf : ∀ i c, (subM S ids).get i = some c → i ∈ ids ∧ S.mem.get i = some c := fun i c h => by
    by_cases hi : i ∈ ids
    · exact ⟨hi, by rw [← (subM_get S ids i).1 hi]; exact h⟩
    · rw [(subM_get S ids i).2 hi] at h; cases h
  have bl : ∀ {id y}, (γ.below N).loc id = some y → γ.loc id = some y ∧ id < N := fun {id y} hl => by
    have hl : (if id < N then γ.loc id else none) = some y := hl
    split at hl
    · exact ⟨hl, by assumption⟩
    · cases hl
  have down : ∀ id, id < N → ∀ x, γ.loc id = some x → (γ.below N).loc id = some x := fun id hid x hx => below_loc hx hid
  have hS0 : SR base w0 (γ.below N) ⟨N, subM S ids⟩ w := by
    refine ⟨hS.below, hS.hbase, hS.imc, fun id hid => ⟨?_, ?_⟩, Nat.le_of_ble_eq_true i4, fun id b s hl => hS.inb id b s (bl hl).1, fun id c hm => ?_, fun id id' c c' b s s' e1 e2 l1 l2 => ?_⟩
    · show (if id < N then γ.loc id else none) = none
      rw [if_neg (Nat.not_lt.2 hid)]
    · exact (subM_get S ids id).2 (fun h => by have := (hids id h).1; have hid : N ≤ id := hid; omega)
    · obtain ⟨hi, hm2⟩ := subOf id c hm
      obtain ⟨hlt, cs, hb, hcs⟩ := hids id hi
      obtain ⟨b, s, l1, l2, l3⟩ := hS.live id c hm2
      refine ⟨b, s, below_loc l1 hlt, l2, ?_⟩
      rw [hb] at hm2; injection hm2 with hm2; subst hm2
      obtain ⟨h0, h1, h2, arr, T, xx, yy, ha, hx, hr⟩ := l3
      exact ⟨h0, h1, h2, arr, T, xx, yy, ha, hx, hr.names down (fun _ _ h => h) hcs⟩
    · exact hS.inj id id' c c' b s s' (subOf id c e1).2 (subOf id' c' e2).2 (bl l1).1 (bl l2).1
  have hv0 : VRL (γ.below N) w args vs := hv.names down (fun _ _ h => h) i2
  have := callX_ok hE hI hmix m base w0 k args ⟨N, subM S ids⟩ (by rw [hr]; exact fun e => by cases e) (γ.below N) w vs hS0 (by rw [hG]; exact GR.none) hv0 hF
  rw [hr] at this
  refine this.mono fun en w' he => ?_
  obtain ⟨γ', v, h1, x, hva, rfl⟩ := he
  -- back
  have same : ∀ id, id < N → γ'.loc id = γ.loc id := fun id hid => by
    rw [x.same id hid]
    show (if id < N then γ.loc id else none) = _
    rw [if_pos hid]
  have up : ∀ id, id < N → ∀ y, γ'.loc id = some y → γ.loc id = some y := fun id hid y h => by rw [← same id hid]; exact h
  have ev : Ev γ w { γ' with loc := γ.loc } w' := ⟨fun _ _ h => h, x.ev.im, x.ev.cell, x.ev.blk⟩
  have oldBox : ∀ i c, (backM S S' ids).get i = some c → ∃ c0, S.mem.get i = some c0 := fun i c h => by
    by_cases hi : i ∈ ids
    · obtain ⟨_, cs, hb, _⟩ := hids i hi; exact ⟨_, hb⟩
    · exact ⟨c, by rw [← (backM_get S S' ids i).2 hi]; exact h⟩
  refine ⟨{ γ' with loc := γ.loc }, v, ⟨h1.below, h1.hbase, h1.imc, fun id hid => ⟨(hS.fresh id hid).1, ?_⟩, hS.pos, fun id b s hl => Nat.lt_of_lt_of_le (hS.inb id b s hl) x.size, fun id c hm => ?_, fun id id' c c' b s s' e1 e2 l1 l2 => ?_⟩,
    ⟨ev, Nat.le_refl _, fun _ _ => rfl, x.size, fun id c b s hm hl => ?_, fun b hb hn => ?_⟩, ?_, rfl⟩
  · show (backM S S' ids).get id = none
    rw [(backM_get S S' ids id).2 (fun h => by have := (hids id h).1; have hid : S.next ≤ id := hid; omega)]
    exact (hS.fresh id hid).2
  · have hm : (backM S S' ids).get id = some c := hm
    by_cases hi : id ∈ ids
    · rw [(backM_get S S' ids id).1 hi] at hm
      obtain ⟨cs, hb, hcs⟩ := hout id hi
      have hlt := (hids id hi).1
      obtain ⟨b, s, l1, l2, l3⟩ := h1.live id c hm
      rw [hb] at hm; injection hm with hm; subst hm
      obtain ⟨h0, h1', h2, arr, T, xx, yy, ha, hx, hr⟩ := l3
      exact ⟨b, s, up id hlt _ l1, l2, h0, h1', h2, arr, T, xx, yy, ha, hx, hr.names (γ' := { γ' with loc := γ.loc }) up (fun _ _ h => h) hcs⟩
    · rw [(backM_get S S' ids id).2 hi] at hm
      obtain ⟨b, s, l1, l2, l3⟩ := hS.live id c hm
      have hfr := x.frame b (hS.inb id b s l1) (fun id2 c2 s2 hm2 hl2 => by
        obtain ⟨hi2, hm3⟩ := subOf id2 c2 hm2
        have := hS.inj id id2 c c2 b s s2 hm hm3 l1 (bl hl2).1
        subst this; exact hi hi2)
      exact ⟨b, s, l1, l2, l3.keep ev hfr.1 hfr.2⟩
  · obtain ⟨d1, k1⟩ := oldBox id c e1
    obtain ⟨d2, k2⟩ := oldBox id' c' e2
    exact hS.inj id id' d1 d2 b s s' k1 k2 l1 l2
  · obtain ⟨d1, k1⟩ := oldBox id c hm
    exact .inr ⟨id, d1, s, k1, hl⟩
  · exact x.frame b hb (fun id c s hm hl => hn id c s (subOf id c hm).2 (bl hl).1)
  · exact VR.clean (γ := γ') (γ' := { γ' with loc := γ.loc }) (fun b o ho => ho) hva hf.1
end Go.Ax
noncomputable section
namespace Go.Ax
open Go.RowKit Go.Proofs
set_option linter.unusedVariables false
set_option linter.unusedSimpArgs false
def growI (sz : Nat) (args : List AV) (S : St) : R := match args with
  | [.nils, .v (.int .i64 n)] => if n = 0 then .ret .nils S else if 0 < n ∧ n ≤ 3000 ∧ 0 < sz then .ret (.sl S.next 0 sz []) ⟨S.next + 1, S.mem.set S.next (some (.tip 0))⟩ else .fail
  | _ => .fail
theorem growI_ok {P : Program} {k : FuncId} {sz e : Nat} (h0 : ∀ w, Calls P k #[.slice none 0 0, .int .i64 0] w fun x w' => x = .returned (.slice none 0 0) ∧ w' = w)
    (h1 : ∀ (n : Nat) (w : World), 0 < n → n ≤ 3000 → Calls P k #[.slice none 0 0, .int .i64 n] w fun x w' => ∃ c, x = .returned (.slice (some ⟨w.heap.size, 0, none⟩) 0 c) ∧ w'.ownsRow w.heap.size e sz (.slice (some ⟨w.heap.size, 0, none⟩) 0 c) 0 [] ∧ Below w.heap.size w w')
    (base : Nat) (w0 : World) (args : List AV) (S : St) (hne : growI sz args S ≠ .fail) (γ : Gh) (w : World) (vs : List Value) (hS : SR base w0 γ S w) (hv : VRL γ w args vs) : Calls P k vs.toArray w (RetOk base w0 γ S w (growI sz args S)) := by
  generalize hr : growI sz args S = r at hne ⊢
  unfold growI at hr
  split at hr
  · rename_i n
    obtain ⟨x, y, rfl, hx, hy⟩ := hv.two
    cases hx; cases hy
    split at hr
    · rename_i hn
      subst hn; subst hr
      refine (h0 w).mono fun x w' ⟨hx, hw⟩ => ?_
      subst hx; subst hw
      exact ⟨γ, _, hS, .refl _ _ _, .nils, rfl⟩
    · split at hr
      · rename_i hn
        obtain ⟨n1, n2, n3⟩ := hn
        subst hr
        have := h1 n.toNat w (by omega) (by omega)
        rw [show ((n.toNat : Nat) : Int) = n by omega] at this
        refine this.mono fun x w' ⟨c, hx, hown, hb⟩ => ?_
        subst hx
        obtain ⟨k1, k2⟩ := hS.after hb
        rcases hown.2 with ⟨hnil, _⟩ | ⟨g, cap, cur, hg, hlo, hcur, hc1, hc2, hc3, hc4⟩
        · cases hnil
        · injection hg with hg1 hg2 hg3
          injection hg1 with hg1
          injection hg1 with hg1
          subst hg3; subst hg1
          have hlt : w.heap.size < w'.heap.size := (Array.getElem?_eq_some_iff.1 hcur).1
          have hf := k1.fresh S.next (Nat.le_refl _)
          have hnew : ∀ id c s', S.mem.get id = some c → γ.loc id ≠ some (w.heap.size, s') := fun id c s' hm hl => by
            have := hS.inb id _ _ hl; omega
          obtain ⟨j1, j2⟩ := k1.name w.heap.size 0 (.tip 0) hS.hbase hlt ⟨cur, e, hcur, fun o ho => by have := imc_lt hS ho; omega, Nat.zero_le _⟩ hnew
          have hx2 := k2.newName (s := 0) (c := .tip 0) hf.1 hf.2 rfl
          refine ⟨γ.withLoc S.next w.heap.size 0, _, j1, hx2, ?_, rfl⟩
          refine .sl S.next 0 sz [] w.heap.size 0 c (fun _ => undef) n3 (fun _ h => absurd h List.not_mem_nil) (fun _ h => absurd h List.not_mem_nil) (fun k h => absurd h (Nat.not_lt_zero k)) (fun k h => absurd h (Nat.not_lt_zero k)) (fun _ => ⟨0, ?_, rfl⟩) (fun h => ?_) (Nat.zero_le _) ⟨cur, e, (0, 0), hcur, by omega⟩
          · show (if S.next = S.next then _ else _) = _; rw [if_pos rfl]
          · have := hS.pos; omega
      · exact absurd hr.symm hne
  · exact absurd hr.symm hne
theorem infoDecl : (Tryz.prog.info? 191).map (fun i => (i.zero, i.size, i.bytes)) = some (some (.agg #[.string ⟨#[]⟩, .int .i64 0, .bool false, .bool false, .string ⟨#[]⟩, .bool false]), 6, 56) := by kernel_rfl
theorem underDecls : Tryz.prog.underlying 60 = some (.slice 191) := by kernel_rfl
theorem infoG_parts {P : Program} {t : TypeId} {z : Option Value} {s b : Nat} (h : (P.info? t).map (fun i => (i.zero, i.size, i.bytes)) = some (z, s, b)) : ∃ i, P.info? t = some i ∧ i.zero = z ∧ i.size = s ∧ i.bytes = b := by
  cases hi : P.info? t with
  | none => rw [hi] at h; cases h
  | some i =>
    rw [hi] at h
    simp only [Option.map_some, Option.some.injEq, Prod.mk.injEq] at h
    exact ⟨i, rfl, h.1, h.2.1, h.2.2⟩
set_option maxRecDepth 100000 in
theorem grow_none (w : World) : Calls Tryz.prog 233 #[.slice none 0 0, .int .i64 0] w fun e w' => e = .returned (.slice none 0 0) ∧ w' = w := by
  go_enter Tryz.func233, Tryz.ntmps233
  go_wp2_with fail
  go_ret
  exact ⟨rfl, rfl⟩
set_option maxRecDepth 100000 in
theorem grow_some (n : Nat) (w : World) (h0 : 0 < n) (hn : n ≤ 3000) :
    Calls Tryz.prog 233 #[.slice none 0 0, .int .i64 n] w fun e w' => ∃ c, e = .returned (.slice (some ⟨w.heap.size, 0, none⟩) 0 c) ∧ w'.ownsRow w.heap.size 191 6 (.slice (some ⟨w.heap.size, 0, none⟩) 0 c) 0 [] ∧ Below w.heap.size w w' := by
  obtain ⟨i0, hi, hz0, hz1, hz2⟩ := infoG_parts infoDecl
  have hrz : ∀ ty, (Builtin.append_ #[60, 3] ty #[.slice none 0 0, .int .i64 ((n : Nat) : Int)]).run Tryz.prog w =
      .ok (.slice (some ⟨w.heap.size, 0, none⟩) n (grownCap w n 0 191)) (w.drew.alloc (.cells (#[] ++ Builtin.zeroCells (Value.cells (.agg #[.string ⟨#[]⟩, .int .i64 0, .bool false, .bool false, .string ⟨#[]⟩, .bool false])) n ++ Builtin.zeroCells (Value.cells (.agg #[.string ⟨#[]⟩, .int .i64 0, .bool false, .bool false, .string ⟨#[]⟩, .bool false])) (grownCap w n 0 191 - n)) 191)) := fun ty => by
    have h := Lib.run_append_grow_zeros w 60 3 ty 191 i0 _ .i64 .i64 underDecls Tryz.underlying3 hi hz0 none 0 0 [] (by rw [hz1]; exact run_firstCells_none w.drew 6 0 0 0) n h0 (by omega) (by omega) (by omega) (by rw [hz2]; omega)
      (growslice_fits (by omega) (by rw [hz2]; omega))
    simpa using h
  have hG1 := grownCap_ge w n 0 191
  have hG2 := grownCap_le_maxLen w n 0 191 (by unfold maxLen; omega)
  obtain ⟨G, hG⟩ : ∃ G, G = grownCap w n 0 191 := ⟨_, rfl⟩
  rw [← hG] at hrz hG1 hG2
  clear hG
  have h4 : ((n : Int) > 0) := by omega
  unfold maxLen at hG2
  go_enter Tryz.func233, Tryz.ntmps233
  go_wp2_with (at_builtin; refine Lib.wpList_append_run _ rfl _ _ _ _ rfl _ _ rfl rfl _ _ (hrz _) ?_)
  all_goals
    go_ret
    refine ⟨G, rfl, World.ownsRow_made w.drew _ G (Nat.le_refl _) (by unfold maxLen; omega) ?_, ((Below.refl _ _).drew).alloc (Nat.le_refl _) _⟩
    simp only [Array.size_append, size_zeroCells]
    simp [Value.cells]
    omega
theorem grow_I (base : Nat) (w0 : World) (args : List AV) (S : St) (hne : growI 6 args S ≠ .fail) (γ : Gh) (w : World) (vs : List Value) (hS : SR base w0 γ S w) (hv : VRL γ w args vs) : Calls Tryz.prog 233 vs.toArray w (RetOk base w0 γ S w (growI 6 args S)) :=
  growI_ok grow_none (fun n w h0 h1 => grow_some n w h0 h1) base w0 args S hne γ w vs hS hv
end Go.Ax
noncomputable section
namespace Go.Ax
open Go.RowKit Go.Proofs
set_option linter.unusedVariables false
set_option linter.unusedSimpArgs false
set_option maxRecDepth 100000
theorem infoDecl2 : (Tryz.prog.info? 277).map (fun i => (i.zero, i.size, i.bytes)) = some (some (.agg #[.int .i64 0, .int .i64 0, .int .i64 0, .bool false, .int .i64 0, .int .i64 0]), 6, 48) := by kernel_rfl
theorem underDecls2 : Tryz.prog.underlying 176 = some (.slice 277) := by kernel_rfl
set_option maxRecDepth 100000 in
theorem grow_none2 (w : World) : Calls Tryz.prog 210 #[.slice none 0 0, .int .i64 0] w fun e w' => e = .returned (.slice none 0 0) ∧ w' = w := by
  go_enter Tryz.func210, Tryz.ntmps210
  go_wp2_with fail
  go_ret
  exact ⟨rfl, rfl⟩
set_option maxRecDepth 100000 in
theorem grow_some2 (n : Nat) (w : World) (h0 : 0 < n) (hn : n ≤ 3000) :
    Calls Tryz.prog 210 #[.slice none 0 0, .int .i64 n] w fun e w' => ∃ c, e = .returned (.slice (some ⟨w.heap.size, 0, none⟩) 0 c) ∧ w'.ownsRow w.heap.size 277 6 (.slice (some ⟨w.heap.size, 0, none⟩) 0 c) 0 [] ∧ Below w.heap.size w w' := by
  obtain ⟨i0, hi, hz0, hz1, hz2⟩ := infoG_parts infoDecl2
  have hrz : ∀ ty, (Builtin.append_ #[176, 3] ty #[.slice none 0 0, .int .i64 ((n : Nat) : Int)]).run Tryz.prog w =
      .ok (.slice (some ⟨w.heap.size, 0, none⟩) n (grownCap w n 0 277)) (w.drew.alloc (.cells (#[] ++ Builtin.zeroCells (Value.cells (.agg #[.int .i64 0, .int .i64 0, .int .i64 0, .bool false, .int .i64 0, .int .i64 0])) n ++ Builtin.zeroCells (Value.cells (.agg #[.int .i64 0, .int .i64 0, .int .i64 0, .bool false, .int .i64 0, .int .i64 0])) (grownCap w n 0 277 - n)) 277)) := fun ty => by
    have h := Lib.run_append_grow_zeros w 176 3 ty 277 i0 _ .i64 .i64 underDecls2 Tryz.underlying3 hi hz0 none 0 0 [] (by rw [hz1]; exact run_firstCells_none w.drew 6 0 0 0) n h0 (by omega) (by omega) (by omega) (by rw [hz2]; omega)
      (growslice_fits (by omega) (by rw [hz2]; omega))
    simpa using h
  have hG1 := grownCap_ge w n 0 277
  have hG2 := grownCap_le_maxLen w n 0 277 (by unfold maxLen; omega)
  obtain ⟨G, hG⟩ : ∃ G, G = grownCap w n 0 277 := ⟨_, rfl⟩
  rw [← hG] at hrz hG1 hG2
  clear hG
  have h4 : ((n : Int) > 0) := by omega
  unfold maxLen at hG2
  go_enter Tryz.func210, Tryz.ntmps210
  go_wp2_with (at_builtin; refine Lib.wpList_append_run _ rfl _ _ _ _ rfl _ _ rfl rfl _ _ (hrz _) ?_)
  all_goals
    go_ret
    refine ⟨G, rfl, World.ownsRow_made w.drew _ G (Nat.le_refl _) (by unfold maxLen; omega) ?_, ((Below.refl _ _).drew).alloc (Nat.le_refl _) _⟩
    simp only [Array.size_append, size_zeroCells]
    simp [Value.cells]
    omega
theorem grow_I2 (base : Nat) (w0 : World) (args : List AV) (S : St) (hne : growI 6 args S ≠ .fail) (γ : Gh) (w : World) (vs : List Value) (hS : SR base w0 γ S w) (hv : VRL γ w args vs) : Calls Tryz.prog 210 vs.toArray w (RetOk base w0 γ S w (growI 6 args S)) :=
  growI_ok grow_none2 (fun n w h0 h1 => grow_some2 n w h0 h1) base w0 args S hne γ w vs hS hv
end Go.Ax
noncomputable section
namespace Go.Ax
open Go.RowKit Go.Proofs
set_option linter.unusedVariables false
set_option linter.unusedSimpArgs false
set_option maxRecDepth 100000
/-- What digits spell, behind what was spelt. -/
def numV : Nat → List UInt8 → Nat
  | a, [] => a
  | a, c :: r => numV (a * 10 + (c.toNat - 48)) r
def digB (b : UInt8) : Bool := 48 ≤ b.toNat && b.toNat ≤ 57
/-- strconv.ParseUint of digits. -/
def puI (args : List AV) : Option AV := match args with
  | [.v (.string s), .v (.int .i64 10), .v (.int .i64 64)] => if s.data.toList ≠ [] ∧ s.data.toList.all digB = true ∧ numV 0 s.data.toList < 18446744073709551616 ∧ s.size ≤ 9223372036854775806 then some (.tup [.v (.int .u64 (numV 0 s.data.toList)), .v .nilIface]) else none
  | _ => none
def rowM (t : Nat) : Nat := Bool.rec (Bool.rec (Bool.rec (Bool.rec (Bool.rec (Bool.rec 0 2 (Nat.beq t 87)) 2 (Nat.beq t 89)) 2 (Nat.beq t 170)) 1 (Nat.beq t 61)) 1 (Nat.beq t 86)) 1 (Nat.beq t 88)
def E1 : Env := { P := Tryz.prog, G := fun _ => none, F := fun k => match Tryz.prog.funcs[k]? with | some fn => if fn.body.isSome then some fn else none | none => none, I := fun k => Bool.rec (Bool.rec (Bool.rec none (some (growI 6)) (Nat.beq k 233)) (some (growI 6)) (Nat.beq k 210)) (some (plainI puI)) (Nat.beq k 223), M := rowM }
theorem e1_names : (Tryz.prog.funcs.toList.all fun fn => !(fn.name == "runtime.NumGoroutine")) = true := by kernel_rfl
theorem e1_ok : E1.Ok := ⟨fun k fn h => by
  simp only [E1] at h
  split at h
  · rename_i fn' hf
    split at h
    · rename_i hb
      injection h with h; subst h
      have hm : fn' ∈ Tryz.prog.funcs.toList := by
        have := Array.mem_of_getElem? hf
        simpa using this
      have := List.all_eq_true.1 e1_names fn' hm
      exact ⟨hf, by simpa using this, Option.isSome_iff_exists.1 hb⟩
    · cases h
  · cases h⟩
theorem numV_ge : ∀ (l : List UInt8) (a : Nat), a ≤ numV a l
  | [], a => Nat.le_refl _
  | c :: r, a => by
    have := numV_ge r (a * 10 + (c.toNat - 48))
    show a ≤ numV (a * 10 + (c.toNat - 48)) r
    omega
theorem parseM_ok : ∀ (l : List UInt8) (a : Nat), l.all digB = true → numV a l < 18446744073709551616 → Lib.parseUintM (2 ^ 64 - 1) a l = .ok (numV a l)
  | [], a, _, _ => rfl
  | c :: r, a, hd, h => by
    rw [List.all_cons, Bool.and_eq_true] at hd
    have hc : 48 ≤ c.toNat ∧ c.toNat ≤ 57 := by have := hd.1; unfold digB at this; simpa using this
    have h1 : a * 10 + (c.toNat - 48) ≤ numV (a * 10 + (c.toNat - 48)) r := numV_ge r _
    have h2 : numV a (c :: r) = numV (a * 10 + (c.toNat - 48)) r := rfl
    rw [h2] at h ⊢
    unfold Lib.parseUintM
    rw [if_pos hc, if_neg (by omega), if_neg (by omega)]
    exact parseM_ok r _ hd.2 h
theorem parse_ok {l : List UInt8} (hn : l ≠ []) (hd : l.all digB = true) (h : numV 0 l < 18446744073709551616) : Lib.parseUintB 64 l = .ok (numV 0 l) := by
  unfold Lib.parseUintB; rw [if_neg hn]; exact parseM_ok l 0 hd h
theorem VRL.three {γ : Gh} {w : World} {a b c : AV} {vs : List Value} (h : VRL γ w [a, b, c] vs) : ∃ x y z, vs = [x, y, z] ∧ VR γ w a x ∧ VR γ w b y ∧ VR γ w c z := by
  obtain ⟨h1, h2⟩ := h
  match vs, h1 with
  | [x, y, z], _ => exact ⟨x, y, z, rfl, h2 0 (by simp) (by simp), h2 1 (by simp) (by simp), h2 2 (by simp) (by simp)⟩
theorem puI_ok : ∀ args a, puI args = some a → ∀ γ w (vs : List Value), VRL γ w args vs → Calls Tryz.prog 223 vs.toArray w fun e w' => Below w.heap.size w w' ∧ ∃ v, e = .returned v ∧ ∀ γ w, VR γ w a v := by
  intro args a h γ w vs hv
  unfold puI at h
  split at h
  · rename_i s
    split at h
    · rename_i hc
      obtain ⟨h0, h1, h2, h3⟩ := hc
      injection h with h; subst h
      obtain ⟨x, y, z, rfl, hx, hy, hz⟩ := hv.three
      cases hx; cases hy; cases hz
      refine (Tryz.strconv_ParseUint_10_at64_ok s h3 _ (parse_ok h0 h1 h2) w).mono fun e w' he => ⟨?_, _, he.1, fun γ w => ?_⟩
      · rcases he.2 with rfl | rfl
        · exact .refl _ _
        · exact Lib.bytesWorld_below _ _ _
      · exact .tup _ _ rfl (fun k hk hk' => by
          match k, hk with
          | 0, _ => exact .v _ rfl
          | 1, _ => exact .v _ rfl)
    · cases h
  · cases h
theorem e1_intr : IntrOk E1 := fun k g hk base w0 args S hne γ w vs hS hg hv => by
  have hk2 : (Bool.rec (Bool.rec (Bool.rec none (some (growI 6)) (Nat.beq k 233)) (some (growI 6)) (Nat.beq k 210)) (some (plainI puI)) (Nat.beq k 223) : Option (List AV → St → R)) = some g := hk
  cases hb : Nat.beq k 223 with
  | false =>
    rw [hb] at hk2
    cases hx : Nat.beq k 210 with
    | true =>
      rw [hx] at hk2
      injection hk2 with hk2; subst hk2
      have : k = 210 := Nat.eq_of_beq_eq_true hx
      subst this
      exact grow_I2 base w0 args S hne γ w vs hS hv
    | false =>
    rw [hx] at hk2
    cases hc : Nat.beq k 233 with
    | false => rw [hc] at hk2; cases hk2
    | true =>
      rw [hc] at hk2
      injection hk2 with hk2; subst hk2
      have : k = 233 := Nat.eq_of_beq_eq_true hc
      subst this
      exact grow_I base w0 args S hne γ w vs hS hv
  | true =>
    rw [hb] at hk2
    injection hk2 with hk2; subst hk2
    have : k = 223 := Nat.eq_of_beq_eq_true hb
    subst this
    exact plainI_ok (P := Tryz.prog) (k := 223) puI_ok base w0 args S hne γ w vs hS hv
theorem e1_mix : E1.P.follows .mixedOrders = true := by kernel_rfl
end Go.Ax
noncomputable section
namespace Go.Ax
open Go.RowKit Go.Proofs
set_option linter.unusedVariables false
set_option linter.unusedSimpArgs false
set_option maxRecDepth 100000
theorem and_any (x : Int) (m : Nat) (hm : m < 65536) : ∃ n : Nat, n ≤ m ∧ bits .and .i64 x (m : Int) = (n : Int) := by
  unfold bits
  simp only
  have h : (BitVec.ofInt IntKind.i64.bits x &&& BitVec.ofInt IntKind.i64.bits (m : Int)).toNat ≤ m := by
    rw [BitVec.toNat_and]
    refine Nat.le_trans Nat.and_le_right ?_
    have e : (BitVec.ofInt IntKind.i64.bits (m : Int)).toNat = m := by
      rw [BitVec.ofInt_natCast, BitVec.toNat_ofNat]
      exact Nat.mod_eq_of_lt (Nat.lt_of_lt_of_le hm (by decide))
    rw [e]; exact Nat.le_refl _
  exact ⟨_, h, IntWalk.i64_in _ (by omega)⟩
theorem and_mod (x : Int) (m q : Nat) (hm : m < 65536) (hq : 0 < q) : ∃ k : Nat, k < q ∧ (bits .and .i64 x (m : Int)).tmod (q : Int) = (k : Int) := by
  obtain ⟨n, hn, he⟩ := and_any x m hm
  refine ⟨n % q, Nat.mod_lt _ hq, ?_⟩
  rw [he, Int.tmod_eq_emod_of_nonneg (by omega)]
  exact (Int.natCast_emod n q).symm
/-- The frame by then: the number, the choice. -/
def fr (k : Int) (b : Bool) : T AV := (T.leaf.set 0 (some (.v (.int .i64 k)))).set 1 (some (.v (.bool b)))
theorem fr_ok {k : Int} {b : Bool} {w : World} {tmps : Array Value} (h0 : tmps[0]? = some (.int .i64 k)) (h1 : tmps[1]? = some (.bool b)) : FR Gh0 w (fr k b) tmps := by
  intro t a h
  unfold fr at h
  rw [T.get_set, T.get_set, T.get_leaf] at h
  split at h
  · rename_i e; subst e
    injection h with h; subst h
    obtain ⟨hl, he⟩ := Array.getElem?_eq_some_iff.1 h1
    exact ⟨hl, by simp only [Array.getD_eq_getD_getElem?, h1, Option.getD_some]; exact .v _ rfl⟩
  · split at h
    · rename_i e; subst e
      injection h with h; subst h
      obtain ⟨hl, he⟩ := Array.getElem?_eq_some_iff.1 h0
      exact ⟨hl, by simp only [Array.getD_eq_getD_getElem?, h0, Option.getD_some]; exact .v _ rfl⟩
    · cases h
end Go.Ax
noncomputable section
namespace Go.Ax
open Go.RowKit Go.Proofs
set_option linter.unusedVariables false
set_option linter.unusedSimpArgs false
set_option maxRecDepth 100000
theorem e1_P : E1.P = Tryz.prog := rfl
theorem e1_G : E1.G = fun _ => none := rfl
theorem neNil3 (a b : AV) : neNil Tryz.prog 3 a b = false := by unfold neNil; rw [Tryz.underlying3]
theorem fb_lss (k : IntKind) (x y : Int) : fastBin .lss (.v (.int k x)) (.v (.int k y)) = some (.v (.bool (decide (x < y)))) := by simp [fastBin]
theorem fb_leq (k : IntKind) (x y : Int) : fastBin .leq (.v (.int k x)) (.v (.int k y)) = some (.v (.bool (decide (x ≤ y)))) := by simp [fastBin]
theorem fb_gtr (k : IntKind) (x y : Int) : fastBin .gtr (.v (.int k x)) (.v (.int k y)) = some (.v (.bool (decide (x > y)))) := by simp [fastBin]
theorem fb_geq (k : IntKind) (x y : Int) : fastBin .geq (.v (.int k x)) (.v (.int k y)) = some (.v (.bool (decide (x ≥ y)))) := by simp [fastBin]
theorem fb_add (k : IntKind) (x y : Int) : fastBin .add (.v (.int k x)) (.v (.int k y)) = some (.v (.int k (k.wrap (x + y)))) := by simp [fastBin]
theorem fb_neqI (k : IntKind) (x y : Int) : fastBin .neq (.v (.int k x)) (.v (.int k y)) = some (.v (.bool (x != y))) := by simp [fastBin]
theorem fb_eqlI (k : IntKind) (x y : Int) : fastBin .eql (.v (.int k x)) (.v (.int k y)) = some (.v (.bool (x == y))) := by simp [fastBin]
def intA (n : Nat) : AV := .v (.int .i64 (n : Int))
theorem wrap_nat {n : Nat} (h : n ≤ 1000000000) : IntKind.i64.wrap (n : Int) = (n : Int) := by
  rw [← wrap64R_eq]
  have : in64 (n : Int) = true := Nat.ble_eq_true_of_le (by omega)
  unfold wrap64R
  rw [this]
theorem wrap_add {i j : Nat} (h : i + j ≤ 1000000000) : IntKind.i64.wrap ((i : Int) + (j : Int)) = ((i + j : Nat) : Int) := by
  rw [← wrap_nat h]; push_cast; rfl
theorem wrap_one {i : Nat} (h : i + 1 ≤ 1000000000) : IntKind.i64.wrap ((i : Int) + 1) = ((i + 1 : Nat) : Int) := wrap_add (j := 1) h
def groundX (P : Program) (G : Gl) (f : T AV) (S : St) (o : Oper) : OR := ground P G f S o
def notO (r : OR) (S : St) (x : Option AV) : OR := match x with
  | some (.v (.bool b)) => .val (.v (.bool (!b))) S
  | _ => r
theorem ground_not (f : T AV) (S : St) (dst : Option Tmp) (k : Tmp) (ty : TypeId) (pos : String) (af : Array Edge) (gd : Option (Nat × Bool)) :
    ground Tryz.prog (fun _ => none) f S { dst := dst, op := .unOp .not 4 (.tmp k), type := ty, pos := pos, after := af, guard := gd } = notO (groundX Tryz.prog (fun _ => none) f S { dst := dst, op := .unOp .not 4 (.tmp k), type := ty, pos := pos, after := af, guard := gd }) S (f.get k) := by
  unfold notO
  split
  · rename_i b h
    have hg : groundO (fun _ => none) f (.tmp k) = some (.bool b) := by unfold groundO; simp only [evalO, h]; rfl
    unfold ground
    simp only [Op.operands, List.all_cons, List.all_nil, hg, Option.isSome_some, Bool.and_self, if_true]
    have e : execOp (fun x => (groundO (fun _ => none) f x).getD undef) { dst := dst, op := .unOp .not 4 (.tmp k), type := ty, pos := pos, after := af, guard := gd } = execOp (fun _ => .bool b) { dst := dst, op := .unOp .not 4 (.tmp k), type := ty, pos := pos, after := af, guard := gd } := by
      simp only [execOp, hg, Option.getD_some]
    rw [e]
    cases b <;> rfl
  · rfl
theorem notO_bool (r : OR) (S : St) (b : Bool) : notO r S (some (.v (.bool b))) = .val (.v (.bool (!b))) S := rfl
/-- All that was there is as it was. -/
def Keep (S S' : St) : Prop := S.next ≤ S'.next ∧ ∀ id, id < S.next → S'.mem.get id = S.mem.get id
theorem Keep.refl (S : St) : Keep S S := ⟨Nat.le_refl _, fun _ _ => rfl⟩
theorem Keep.trans {S S1 S2 : St} (h : Keep S S1) (k : Keep S1 S2) : Keep S S2 := ⟨Nat.le_trans h.1 k.1, fun id hid => (k.2 id (Nat.lt_of_lt_of_le hid h.1)).trans (h.2 id hid)⟩
def St.put (S : St) (id : Nat) (cs : List AV) : St := { S with mem := S.mem.set id (some (.box cs)) }
theorem keep_new (S : St) (cs : List AV) : Keep S (S.newBox cs) := ⟨Nat.le_succ _, fun id hid => by
  show (S.mem.set S.next _).get id = _
  rw [T.get_set, if_neg (by omega)]⟩
theorem keep_put {S S' : St} (h : Keep S S') {id : Nat} (hid : S.next ≤ id) (cs : List AV) : Keep S (S'.put id cs) := ⟨h.1, fun k hk => by
  show (S'.mem.set id _).get k = _
  rw [T.get_set, if_neg (by omega)]; exact h.2 k hk⟩
theorem new_get (S : St) (cs : List AV) : (S.newBox cs).mem.get S.next = some (.box cs) := by
  show (S.mem.set S.next _).get S.next = _
  rw [T.get_set, if_pos rfl]
theorem put_get (S : St) (id : Nat) (cs : List AV) : (S.put id cs).mem.get id = some (.box cs) := by
  show (S.mem.set id _).get id = _
  rw [T.get_set, if_pos rfl]
section
variable {E : Env} {n : Nat} {f : Fr} {S : St} {Q : O → Prop} {ops : Array Oper} {t : T AV} {ds : List Dfr}
theorem execL_val2 {o : Oper} {l : List Oper} {a : AV} {S' : St} : execL E n ops o l f S Q (some true) (.val a S') = putL E n ops l o.dst f a S' Q := _root_.id rfl
theorem execL_skip2 {o : Oper} {l : List Oper} {S' : St} : execL E n ops o l f S Q (some true) (.skip S') = putL E n ops l o.dst f (.tup []) S' Q := _root_.id rfl
theorem execL_enter2 {o : Oper} {l : List Oper} {k : FuncId} {args : List AV} {S' : St} : execL E n ops o l f S Q (some true) (.enter k args S') = WC E k args S' (retL E n ops l o.dst f Q) := _root_.id rfl
theorem execL_dfr2 {o : Oper} {l : List Oper} {fn : Fn} {caps args : List AV} {S' : St} : execL E n ops o l f S Q (some true) (.dfr fn caps args S') = putL E n ops l o.dst { f with dfr := ⟨fn, caps, args⟩ :: f.dfr } (.tup []) S' Q := _root_.id rfl
theorem execL_pan2 {o : Oper} {l : List Oper} {a : AV} {S' : St} : execL E n ops o l f S Q (some true) (.pan a S') = Q (.out (.pan a) f S') := _root_.id rfl
theorem putL_none2 {l : List Oper} {a : AV} : putL E n ops l none f a S Q = WL E n ops l f S Q := _root_.id rfl
theorem putL_some2 {l : List Oper} {d : Nat} {a : AV} : putL E n ops l (some d) ⟨t, ds⟩ a S Q = (d < n ∧ WL E n ops l ⟨t.set d (some a), ds⟩ S Q) := _root_.id rfl
theorem retL_ret2 {l : List Oper} {dst : Option Tmp} {a : AV} : retL E n ops l dst f Q (.ret a S) = putL E n ops l dst f a S Q := _root_.id rfl
theorem retL_pan2 {l : List Oper} {dst : Option Tmp} {a : AV} : retL E n ops l dst f Q (.pan a S) = Q (.out (.pan a) f S) := _root_.id rfl
theorem WR_re2 {o : Oper} {l : List RS} : WR E n ops (.re o :: l) f S Q = (againO E ops o f.tmps S = true ∧ WR E n ops l f S Q) := _root_.id rfl
theorem execR_val2 {o : Oper} {l : List RS} {a : AV} {S' : St} : execR E n ops o l f S Q (some true) (.val a S') = putRW E n ops l o.dst f a S' Q := _root_.id rfl
theorem execR_skip2 {o : Oper} {l : List RS} {S' : St} : execR E n ops o l f S Q (some true) (.skip S') = putRW E n ops l o.dst f (.tup []) S' Q := _root_.id rfl
theorem execR_enter2 {o : Oper} {l : List RS} {k : FuncId} {args : List AV} {S' : St} : execR E n ops o l f S Q (some true) (.enter k args S') = WC E k args S' (retRW E n ops l o.dst f Q) := _root_.id rfl
theorem execR_pan2 {o : Oper} {l : List RS} {a : AV} {S' : St} : execR E n ops o l f S Q (some true) (.pan a S') = Q (.out (.pan a) f S') := _root_.id rfl
theorem putRW_none2 {l : List RS} {a : AV} : putRW E n ops l none f a S Q = WR E n ops l f S Q := _root_.id rfl
theorem putRW_some2 {l : List RS} {d : Nat} {a : AV} : putRW E n ops l (some d) ⟨t, ds⟩ a S Q = (d < n ∧ WR E n ops l ⟨t.set d (some a), ds⟩ S Q) := _root_.id rfl
theorem retRW_ret2 {l : List RS} {dst : Option Tmp} {a : AV} : retRW E n ops l dst f Q (.ret a S) = putRW E n ops l dst f a S Q := _root_.id rfl
theorem retRW_pan2 {l : List RS} {dst : Option Tmp} {a : AV} : retRW E n ops l dst f Q (.pan a S) = Q (.out (.pan a) f S) := _root_.id rfl
theorem condW_t2 {x y : Prop} : condW (some (.v (.bool true))) x y = x := _root_.id rfl
theorem condW_f2 {x y : Prop} : condW (some (.v (.bool false))) x y = y := _root_.id rfl
theorem seqQ_exit2 {b : Code} {id : Nat} : seqQ E n b Q (.out (.exit id) f S) = Q (.out (.exit id) f S) := _root_.id rfl
theorem seqQ_ret2 {b : Code} : seqQ E n b Q (.out .ret f S) = Q (.out .ret f S) := _root_.id rfl
theorem seqQ_pan2 {b : Code} {a : AV} : seqQ E n b Q (.out (.pan a) f S) = Q (.out (.pan a) f S) := _root_.id rfl
theorem blockW_normal2 {id : Nat} : blockW id Q (.out .normal f S) = Q (.out .normal f S) := _root_.id rfl
theorem blockW_ret2 {id : Nat} : blockW id Q (.out .ret f S) = Q (.out .ret f S) := _root_.id rfl
theorem blockW_pan2 {id : Nat} {a : AV} : blockW id Q (.out (.pan a) f S) = Q (.out (.pan a) f S) := _root_.id rfl
theorem blockW_exit2 {id id' : Nat} : blockW id Q (.out (.exit id') f S) = if id' = id then Q (.out .normal f S) else Q (.out (.exit id') f S) := _root_.id rfl
theorem fixQ_normal2 {g : Fr} : fixQ ops g Q (.out .normal f S) = Q (.out .normal f S) := _root_.id rfl
theorem fixQ_pan2 {g : Fr} {a : AV} : fixQ ops g Q (.out (.pan a) f S) = Q (.out (.pan a) ⟨eraseT ops.toList g.tmps, g.dfr⟩ S) := _root_.id rfl
end
theorem seqQ_normal2 {E : Env} {n : Nat} {f : Fr} {S : St} {Q : O → Prop} {b : Code} : seqQ E n b Q (.out .normal f S) = W E n b f S Q := _root_.id rfl
theorem WL_nil2 {E : Env} {n : Nat} {f : Fr} {S : St} {Q : O → Prop} {ops : Array Oper} : WL E n ops [] f S Q = Q (.out .normal f S) := _root_.id rfl
theorem WR_nil2 {E : Env} {n : Nat} {f : Fr} {S : St} {Q : O → Prop} {ops : Array Oper} : WR E n ops [] f S Q = Q (.out .normal f S) := _root_.id rfl
end Go.Ax
