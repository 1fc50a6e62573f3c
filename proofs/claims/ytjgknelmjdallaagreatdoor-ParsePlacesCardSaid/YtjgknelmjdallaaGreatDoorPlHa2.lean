/-
  Runs reasoned over without numbers of rounds: what holds of a run from some number of rounds on; rules for code, regions, calls, loops.
-/
import Derived.Test.YtjgknelmjdallaaGreatDoorPlXf
noncomputable section
namespace Go.Ax
open Go.RowKit
set_option linter.unusedVariables false
set_option linter.unusedSimpArgs false
abbrev ckN (E : Env) (m : Nat) : Ep := Ri E (Dr E) m
/-- From some number of rounds on a call ends so. -/
def CT (E : Env) (k : FuncId) (args : List AV) (S : St) (r : R) : Prop := ∃ m0, ∀ m, m0 ≤ m → ckN E m k args S = r
def RT (E : Env) (n : Nat) (c : Code) (f : Fr) (S : St) (r : O) : Prop := ∃ m0, ∀ m, m0 ≤ m → run E (Dr E) m n c f S = r
def LT (E : Env) (n : Nat) (ops : Array Oper) (l : List Oper) (f : Fr) (S : St) (r : O) : Prop := ∃ m0, ∀ m, m0 ≤ m → Uh E (ckN E m) n ops l f S = r
def DT (E : Env) (n : Nat) (ops : Array Oper) (l : List RS) (f : Fr) (S : St) (r : O) : Prop := ∃ m0, ∀ m, m0 ≤ m → Fb E (ckN E m) n ops l f S = r
/-- It ends so that .. -/
def WC (E : Env) (k : FuncId) (args : List AV) (S : St) (Q : R → Prop) : Prop := ∃ r, CT E k args S r ∧ Q r
def WX (E : Env) (n : Nat) (c : Code) (f : Fr) (S : St) (Q : O → Prop) : Prop := ∃ r, RT E n c f S r ∧ Q r
def Ti (n : Nat) (f : Fr) (dst : Option Tmp) (a : AV) (S : St) (K : Fr → St → Prop) : Prop := match dst with
  | none => K f S
  | some d => d < n ∧ K { f with tmps := f.tmps.set d (some a) } S
def retW (n : Nat) (f : Fr) (dst : Option Tmp) (K : Fr → St → Prop) (Q : O → Prop) : R → Prop
  | .ret a S => Ti n f dst a S K
  | .pan a S => Q (.out (.pan a) f S)
  | .fail => False
def gF (E : Env) (n : Nat) (o : Oper) (f : Fr) (K : Fr → St → Prop) (Q : O → Prop) : OR → Prop
  | .val a S' => Ti n f o.dst a S' K
  | .skip S' => Ti n f o.dst (.tup []) S' K
  | .enter k args S' => WC E k args S' (retW n f o.dst K Q)
  | .dfr fn caps args S' => Ti n { f with dfr := ⟨fn, caps, args⟩ :: f.dfr } o.dst (.tup []) S' K
  | .pan a S' => Q (.out (.pan a) f S')
  | .fail => False
def Sm (E : Env) (n : Nat) (ops : Array Oper) (o : Oper) (f : Fr) (S : St) (K : Fr → St → Prop) (Q : O → Prop) : Prop := match Bv ops o f.tmps with
  | none => False
  | some false => Ti n f o.dst (.tup []) S K
  | some true => gF E n o f K Q (C0 E f.tmps S o)
def WL (E : Env) (n : Nat) (ops : Array Oper) : List Oper → Fr → St → (O → Prop) → Prop
  | [], f, S, Q => Q (.out .normal f S)
  | o :: l, f, S, Q => Sm E n ops o f S (fun f' S' => WL E n ops l f' S' Q) Q
def WR (E : Env) (n : Nat) (ops : Array Oper) : List RS → Fr → St → (O → Prop) → Prop
  | [], f, S, Q => Q (.out .normal f S)
  | .op o :: l, f, S, Q => Sm E n ops o f S (fun f' S' => WR E n ops l f' S' Q) Q
  | .re o :: l, f, S, Q => Db E ops o f.tmps S = true ∧ WR E n ops l f S Q
/-- A region whose order is drawn. -/
def WD (E : Env) (n : Nat) (ops : Array Oper) (f : Fr) (S : St) (Q : O → Prop) : Prop := ∃ r, (∃ m0, ∀ m, m0 ≤ m → Dr E (ckN E m) n ops f S = r) ∧ Q r
def Pi (K : Fr → St → Prop) (Q : O → Prop) : O → Prop
  | .out .normal f S => K f S
  | r => Q r
def Kz (id : Nat) (Q : O → Prop) : O → Prop
  | .out (.exit id') f S => if id' = id then Q (.out .normal f S) else Q (.out (.exit id') f S)
  | r => Q r
def Rg (c : Option AV) (x y : Prop) : Prop := match c with
  | some (.v (.bool true)) => x
  | some (.v (.bool false)) => y
  | _ => False
def W (E : Env) (n : Nat) (c : Code) (f : Fr) (S : St) (Q : O → Prop) : Prop := match c with
  | .skip => Q (.out .normal f S)
  | .label _ => Q (.out .normal f S)
  | .region _ ops false => WL E n ops ops.toList f S Q
  | .region _ ops true => WD E n ops f S Q
  | .seq a b => W E n a f S (Pi (fun f' S' => W E n b f' S' Q) Q)
  | .cond c x y => Rg (Cz E.G f.tmps c) (W E n x f S Q) (W E n y f S Q)
  | .block id c => W E n c f S (Kz id Q)
  | .loop c => WX E n (.loop c) f S Q
  | .exit id => Q (.out (.exit id) f S)
  | .ret => Q (.out .ret f S)
  | _ => False
theorem Zw (E : Env) (m n : Nat) (c : Code) (f : Fr) (S : St) : run E (Dr E) (m + 1) n c f S = Ew E (Dr E) (run E (Dr E) m) (ckN E m) n c f S := rfl
theorem R2 {n : Nat} {f : Fr} {dst : Option Tmp} {a : AV} {S : St} {K : Fr → St → Prop} (h : Ti n f dst a S K) : ∃ f', Jw n f dst a S = .out .normal f' S ∧ K f' S := by
  unfold Ti at h; unfold Jw
  cases dst with
  | none => exact ⟨f, rfl, h⟩
  | some d => exact ⟨_, by simp only [if_pos h.1], h.2⟩
/-- A step, from some number of rounds on. -/
theorem T9 {E : Env} {n : Nat} {ops : Array Oper} {o : Oper} {f : Fr} {S : St} {K : Fr → St → Prop} {Q : O → Prop} (h : Sm E n ops o f S K Q) :
    ∃ m0, (∃ f' S', K f' S' ∧ ∀ m, m0 ≤ m → Fl E (ckN E m) n ops o f S = .out .normal f' S') ∨ (∃ a f' S', Q (.out (.pan a) f' S') ∧ ∀ m, m0 ≤ m → Fl E (ckN E m) n ops o f S = .out (.pan a) f' S') := by
  unfold Sm at h
  have hput : ∀ {dst a S'}, Ti n f dst a S' K → (∀ m, Fl E (ckN E m) n ops o f S = Jw n f dst a S') → ∃ m0, (∃ f' S', K f' S' ∧ ∀ m, m0 ≤ m → Fl E (ckN E m) n ops o f S = .out .normal f' S') ∨ (∃ a f' S', Q (.out (.pan a) f' S') ∧ ∀ m, m0 ≤ m → Fl E (ckN E m) n ops o f S = .out (.pan a) f' S') := fun hp he => by
    obtain ⟨f', e, hk⟩ := R2 hp
    exact ⟨0, .inl ⟨f', _, hk, fun m _ => (he m).trans e⟩⟩
  cases hw : Bv ops o f.tmps with
  | none => rw [hw] at h; exact h.elim
  | some b =>
    rw [hw] at h
    cases b with
    | false => exact hput h (fun m => by unfold Fl; rw [hw])
    | true =>
      unfold gF at h
      simp only at h
      cases hx : C0 E f.tmps S o with
      | val a S' => rw [hx] at h; exact hput h (fun m => by unfold Fl; rw [hw]; simp only [hx])
      | skip S' => rw [hx] at h; exact hput h (fun m => by unfold Fl; rw [hw]; simp only [hx])
      | enter k args S' =>
        rw [hx] at h
        obtain ⟨r, ⟨m0, hm⟩, hq⟩ := h
        unfold retW at hq
        cases r with
        | ret a S2 =>
          obtain ⟨f', e, hk⟩ := R2 hq
          exact ⟨m0, .inl ⟨f', _, hk, fun m h => by unfold Fl; rw [hw]; simp only [hx, hm m h, e]⟩⟩
        | pan a S2 => exact ⟨m0, .inr ⟨a, _, _, hq, fun m h => by unfold Fl; rw [hw]; simp only [hx, hm m h]⟩⟩
        | fail => exact hq.elim
      | dfr fn caps args S' =>
        rw [hx] at h
        obtain ⟨f', e, hk⟩ := R2 h
        exact ⟨0, .inl ⟨f', _, hk, fun m _ => by unfold Fl; rw [hw]; simp only [hx, e]⟩⟩
      | pan a S' => rw [hx] at h; exact ⟨0, .inr ⟨a, _, _, h, fun m _ => by unfold Fl; rw [hw]; simp only [hx]⟩⟩
      | fail => rw [hx] at h; exact h.elim
theorem bS {E : Env} {n : Nat} {ops : Array Oper} : ∀ {l : List Oper} {f : Fr} {S : St} {Q : O → Prop}, WL E n ops l f S Q → ∃ r, LT E n ops l f S r ∧ Q r
  | [], f, S, Q, h => ⟨_, ⟨0, fun _ _ => rfl⟩, h⟩
  | o :: l, f, S, Q, h => by
    obtain ⟨m0, ⟨f', S', hk, hm⟩ | ⟨a, f', S', hq, hm⟩⟩ := T9 h
    · obtain ⟨r, ⟨m1, h1⟩, h2⟩ := bS hk
      exact ⟨r, ⟨max m0 m1, fun m hmm => by
        show (match Fl E (ckN E m) n ops o f S with | .out .normal f' S' => Uh E (ckN E m) n ops l f' S' | x => x) = r
        rw [hm m (by omega)]; exact h1 m (by omega)⟩, h2⟩
    · exact ⟨_, ⟨m0, fun m hmm => by
        show (match Fl E (ckN E m) n ops o f S with | .out .normal f' S' => Uh E (ckN E m) n ops l f' S' | x => x) = _
        rw [hm m hmm]⟩, hq⟩
theorem O4 {E : Env} {n : Nat} {ops : Array Oper} : ∀ {l : List RS} {f : Fr} {S : St} {Q : O → Prop}, WR E n ops l f S Q → ∃ r, DT E n ops l f S r ∧ r ≠ .fail ∧ Q r
  | [], f, S, Q, h => ⟨_, ⟨0, fun _ _ => rfl⟩, (fun e => by cases e), h⟩
  | .op o :: l, f, S, Q, h => by
    obtain ⟨m0, ⟨f', S', hk, hm⟩ | ⟨a, f', S', hq, hm⟩⟩ := T9 h
    · obtain ⟨r, ⟨m1, h1⟩, h3, h2⟩ := O4 hk
      exact ⟨r, ⟨max m0 m1, fun m hmm => by
        show (match Fl E (ckN E m) n ops o f S with | .out .normal f' S' => Fb E (ckN E m) n ops l f' S' | x => x) = r
        rw [hm m (by omega)]; exact h1 m (by omega)⟩, h3, h2⟩
    · exact ⟨_, ⟨m0, fun m hmm => by
        show (match Fl E (ckN E m) n ops o f S with | .out .normal f' S' => Fb E (ckN E m) n ops l f' S' | x => x) = _
        rw [hm m hmm]⟩, (fun e => by cases e), hq⟩
  | .re o :: l, f, S, Q, h => by
    obtain ⟨r, ⟨m1, h1⟩, h3, h2⟩ := O4 h.2
    exact ⟨r, ⟨m1, fun m hmm => by
      show (if Db E ops o f.tmps S = true then Fb E (ckN E m) n ops l f S else .fail) = r
      rw [if_pos h.1]; exact h1 m hmm⟩, h3, h2⟩
/-- A drawn region, by one order. -/
theorem oT {E : Env} {n : Nat} {ops : Array Oper} {f : Fr} {S : St} {Q : O → Prop} {rs : List RS} (h3 : Kv ops (bm ops.toList []) (Kr ops (bm ops.toList []) ops.size (List.range ops.size) 0) [] = some rs)
    (h2 : Mz ops (bm ops.toList []) (Kr ops (bm ops.toList []) ops.size (List.range ops.size) 0) = true) (h : WR E n ops rs f S (fun r => Q (Ko ⟨Gb ops.toList f.tmps, f.dfr⟩ r))) : WD E n ops f S Q := by
  obtain ⟨r, ⟨m0, hm⟩, hne, hq⟩ := O4 h
  have h1 : Lu E.P ops = none := by unfold Lu; simp only [h2, if_true]
  have h1m : Nk E.P ops = none := by unfold Nk; simp only [h2, if_true]
  refine ⟨_, ⟨m0, fun m hmm => ?_⟩, hq⟩
  unfold Dr
  rw [h1]
  simp only [h1m]
  unfold Gn
  simp only
  rw [if_pos h2]
  rcases Jb (E := E) (ck := ckN E m) (n := n) (fb := ⟨Gb ops.toList f.tmps, f.dfr⟩) _ rs f S [] h3 (fun _ h => absurd h List.not_mem_nil) with h | h
  · rw [hm m hmm] at h; exact absurd h hne
  · rw [h, hm m hmm]
theorem WD_fl {E : Env} {n : Nat} {ops : Array Oper} {f : Fr} {S : St} {Q : O → Prop} {x : FlP} {rs : List RS} (h1 : Lu E.P ops = some x) (h2 : Mv ops x = some rs) (h3 : x.d < n)
    (h : WR E n ops rs ⟨f.tmps.set x.d none, f.dfr⟩ S (fun r => Q (Ko ⟨Gb ops.toList f.tmps, f.dfr⟩ r))) : WD E n ops f S Q := by
  obtain ⟨r, ⟨m0, hm⟩, hne, hq⟩ := O4 h
  refine ⟨_, ⟨m0, fun m hmm => ?_⟩, hq⟩
  unfold Dr
  rw [h1]
  simp only
  unfold Nu
  rw [h2]
  simp only
  rw [if_pos h3, hm m hmm]
/-- Steps by their numbers. -/
def Dq (ops : Array Oper) : List (Nat × Bool) → List RS
  | [] => []
  | (i, b) :: r => match ops[i]? with
    | some o => (if b then RS.op o else RS.re o) :: Dq ops r
    | none => []
theorem A3 (K : Fr → St → Prop) (Q : O → Prop) (f : Fr) (S : St) : Pi K Q (.out .normal f S) = K f S := rfl
theorem A6 (K : Fr → St → Prop) (Q : O → Prop) (id : Nat) (f : Fr) (S : St) : Pi K Q (.out (.exit id) f S) = Q (.out (.exit id) f S) := rfl
theorem Bb (K : Fr → St → Prop) (Q : O → Prop) (f : Fr) (S : St) : Pi K Q (.out .ret f S) = Q (.out .ret f S) := rfl
theorem Bc (K : Fr → St → Prop) (Q : O → Prop) (a : AV) (f : Fr) (S : St) : Pi K Q (.out (.pan a) f S) = Q (.out (.pan a) f S) := rfl
theorem Es {E : Env} {n : Nat} : ∀ {c : Code} {f : Fr} {S : St} {Q : O → Prop}, W E n c f S Q → WX E n c f S Q := by
  have up : ∀ {c : Code} {f : Fr} {S : St} {r : O}, (∃ m0, ∀ m, m0 ≤ m → Ew E (Dr E) (run E (Dr E) m) (ckN E m) n c f S = r) → RT E n c f S r := fun ⟨m0, h⟩ => ⟨m0 + 1, fun m hm => by
    obtain ⟨k, rfl⟩ : ∃ k, m = k + 1 := ⟨m - 1, by omega⟩
    rw [Zw]; exact h k (by omega)⟩
  intro c
  induction c with
  | skip => intro f S Q h; unfold W at h; exact ⟨_, up ⟨0, fun _ _ => rfl⟩, h⟩
  | label l => intro f S Q h; unfold W at h; exact ⟨_, up ⟨0, fun _ _ => rfl⟩, h⟩
  | region id ops draw =>
    intro f S Q h
    unfold W at h
    cases draw with
    | false =>
      obtain ⟨r, ⟨m0, hm⟩, hq⟩ := bS h
      exact ⟨r, up ⟨m0, fun m hmm => hm m hmm⟩, hq⟩
    | true =>
      obtain ⟨r, ⟨m0, hm⟩, hq⟩ := h
      exact ⟨r, up ⟨m0, fun m hmm => hm m hmm⟩, hq⟩
  | seq a b iha ihb =>
    intro f S Q h
    unfold W at h
    obtain ⟨r, ⟨m0, hm⟩, hq⟩ := iha h
    have other : Pi (fun f' S' => W E n b f' S' Q) Q r = Q r → (∀ m, m0 ≤ m → Ew E (Dr E) (run E (Dr E) m) (ckN E m) n (.seq a b) f S = r) → WX E n (.seq a b) f S Q := fun e he => ⟨r, up ⟨m0, he⟩, by rw [← e]; exact hq⟩
    cases r with
    | fail => exact other rfl (fun m hmm => by unfold Ew; simp only [hm m hmm])
    | out e f' S' =>
      cases e with
      | normal =>
        obtain ⟨r, ⟨m1, h1⟩, hq⟩ := ihb hq
        exact ⟨r, up ⟨max m0 m1, fun m hmm => by
          unfold Ew; simp only
          rw [hm m (by omega)]; exact h1 m (by omega)⟩, hq⟩
      | exit id => exact other rfl (fun m hmm => by unfold Ew; simp only [hm m hmm])
      | ret => exact other rfl (fun m hmm => by unfold Ew; simp only [hm m hmm])
      | pan a => exact other rfl (fun m hmm => by unfold Ew; simp only [hm m hmm])
  | cond c x y ihx ihy =>
    intro f S Q h
    unfold W at h
    unfold Rg at h
    split at h
    · rename_i hc
      obtain ⟨r, ⟨m0, hm⟩, hq⟩ := ihx h
      exact ⟨r, up ⟨m0, fun m hmm => by unfold Ew; simp only [hc]; exact hm m hmm⟩, hq⟩
    · rename_i hc
      obtain ⟨r, ⟨m0, hm⟩, hq⟩ := ihy h
      exact ⟨r, up ⟨m0, fun m hmm => by unfold Ew; simp only [hc]; exact hm m hmm⟩, hq⟩
    · exact h.elim
  | block id c ih =>
    intro f S Q h
    unfold W at h
    obtain ⟨r, ⟨m0, hm⟩, hq⟩ := ih h
    have other : Kz id Q r = Q r → (∀ m, m0 ≤ m → Ew E (Dr E) (run E (Dr E) m) (ckN E m) n (.block id c) f S = r) → WX E n (.block id c) f S Q := fun e he => ⟨r, up ⟨m0, he⟩, by rw [← e]; exact hq⟩
    cases r with
    | fail => exact other rfl (fun m hmm => by unfold Ew; simp only [hm m hmm])
    | out e f' S' =>
      cases e with
      | exit id' =>
        unfold Kz at hq
        simp only at hq
        by_cases hi : id' = id
        · rw [if_pos hi] at hq
          exact ⟨_, up ⟨m0, fun m hmm => by unfold Ew; simp only [hm m hmm, if_pos hi]⟩, hq⟩
        · rw [if_neg hi] at hq
          exact ⟨_, up ⟨m0, fun m hmm => by unfold Ew; simp only [hm m hmm, if_neg hi]⟩, hq⟩
      | normal => exact other rfl (fun m hmm => by unfold Ew; simp only [hm m hmm])
      | ret => exact other rfl (fun m hmm => by unfold Ew; simp only [hm m hmm])
      | pan a => exact other rfl (fun m hmm => by unfold Ew; simp only [hm m hmm])
  | loop c ih => intro f S Q h; unfold W at h; exact h
  | exit id => intro f S Q h; unfold W at h; exact ⟨_, up ⟨0, fun _ _ => rfl⟩, h⟩
  | ret => intro f S Q h; unfold W at h; exact ⟨_, up ⟨0, fun _ _ => rfl⟩, h⟩
  | _ => intro f S Q h; unfold W at h; exact h.elim
theorem WX.mono {E : Env} {n : Nat} {c : Code} {f : Fr} {S : St} {Q Q' : O → Prop} (h : WX E n c f S Q) (hq : ∀ r, Q r → Q' r) : WX E n c f S Q' := by
  obtain ⟨r, h1, h2⟩ := h; exact ⟨r, h1, hq r h2⟩
theorem WC.mono {E : Env} {k : FuncId} {args : List AV} {S : St} {Q Q' : R → Prop} (h : WC E k args S Q) (hq : ∀ r, Q r → Q' r) : WC E k args S Q' := by
  obtain ⟨r, h1, h2⟩ := h; exact ⟨r, h1, hq r h2⟩
/-- A loop: its body, and then the loop. -/
theorem Fc {E : Env} {n : Nat} {c : Code} {f : Fr} {S : St} {Q : O → Prop} (h : WX E n c f S (Pi (fun f' S' => WX E n (.loop c) f' S' Q) Q)) : WX E n (.loop c) f S Q := by
  obtain ⟨r, ⟨m0, hm⟩, hq⟩ := h
  have up : ∀ {r : O}, (∃ m0, ∀ m, m0 ≤ m → Ew E (Dr E) (run E (Dr E) m) (ckN E m) n (.loop c) f S = r) → RT E n (.loop c) f S r := fun ⟨m0, h⟩ => ⟨m0 + 1, fun m hm => by
    obtain ⟨k, rfl⟩ : ∃ k, m = k + 1 := ⟨m - 1, by omega⟩
    rw [Zw]; exact h k (by omega)⟩
  have other : Pi (fun f' S' => WX E n (.loop c) f' S' Q) Q r = Q r → (∀ m, m0 ≤ m → Ew E (Dr E) (run E (Dr E) m) (ckN E m) n (.loop c) f S = r) → WX E n (.loop c) f S Q := fun e he => ⟨r, up ⟨m0, he⟩, by rw [← e]; exact hq⟩
  cases r with
  | fail => exact other rfl (fun m hmm => by unfold Ew; simp only [hm m hmm])
  | out e f' S' =>
    cases e with
    | normal =>
      obtain ⟨r, ⟨m1, h1⟩, hq⟩ := hq
      exact ⟨r, up ⟨max m0 m1, fun m hmm => by
        unfold Ew; simp only
        rw [hm m (by omega)]; exact h1 m (by omega)⟩, hq⟩
    | exit id => exact other rfl (fun m hmm => by unfold Ew; simp only [hm m hmm])
    | ret => exact other rfl (fun m hmm => by unfold Ew; simp only [hm m hmm])
    | pan a => exact other rfl (fun m hmm => by unfold Ew; simp only [hm m hmm])
/-- What a function without deferred calls answers. -/
def C4 (E : Env) (rs : List ResultVar) (f : Fr) (S : St) (Q : R → Prop) : Prop := match f.dfr, Bj E f.tmps S rs with
  | [], some l => Q (.ret (Df l) S)
  | _, _ => False
def jL (E : Env) (rs : List ResultVar) (Q : R → Prop) : O → Prop
  | .out .normal f S => C4 E rs f S Q
  | .out .ret f S => C4 E rs f S Q
  | .out (.pan a) f S => f.dfr = [] ∧ Q (.pan a S)
  | _ => False
theorem WC_ext {E : Env} {k : FuncId} {args : List AV} {S : St} {Q : R → Prop} (fn : Func) (hI : E.I k = none) (hF : E.F k = some fn) (hb : fn.body.isSome = true) (hl : args.length ≤ fn.ntmps)
    (h : WX E fn.ntmps (fn.body.getD .skip) ⟨C1 args 0, []⟩ S (jL E fn.results.toList Q)) : WC E k args S Q := by
  obtain ⟨r, ⟨m0, hm⟩, hq⟩ := h
  obtain ⟨c, hc⟩ := Option.isSome_iff_exists.1 hb
  have key : ∀ m, m0 ≤ m → ckN E m k args S = Q7 E (run E (Dr E) m) fn r := fun m hmm => by
    show Iw E (run E (Dr E) m) k args S = _
    unfold Iw
    rw [hI, hF]
    simp only [hc, if_pos hl]
    have := hm m hmm
    rw [hc] at this
    rw [show run E (Dr E) m fn.ntmps c ⟨C1 args 0, []⟩ S = r from this]
  have give : ∀ (f : Fr) (S' : St), C4 E fn.results.toList f S' Q → ∃ l, f.dfr = [] ∧ Bj E f.tmps S' fn.results.toList = some l ∧ Q (.ret (Df l) S') := fun f S' hg => by
    unfold C4 at hg
    split at hg
    · rename_i l h1 h2; exact ⟨l, h1, h2, hg⟩
    · exact hg.elim
  cases r with
  | fail => exact hq.elim
  | out e f' S' =>
    cases e with
    | normal =>
      obtain ⟨l, h1, h2, h3⟩ := give f' S' hq
      exact ⟨_, ⟨m0, fun m hmm => by rw [key m hmm]; simp only [Q7, h1, Jn, h2]⟩, h3⟩
    | ret =>
      obtain ⟨l, h1, h2, h3⟩ := give f' S' hq
      exact ⟨_, ⟨m0, fun m hmm => by rw [key m hmm]; simp only [Q7, h1, Jn, h2]⟩, h3⟩
    | pan a => exact ⟨_, ⟨m0, fun m hmm => by rw [key m hmm]; simp only [Q7, hq.1]⟩, hq.2⟩
    | exit id => exact hq.elim
theorem Ek {E : Env} {k : FuncId} {args : List AV} {S : St} {Q : R → Prop} (fn : Func) (hI : E.I k = none) (hF : E.F k = some fn) (hb : fn.body.isSome = true) (hl : args.length ≤ fn.ntmps)
    (h : W E fn.ntmps (fn.body.getD .skip) ⟨C1 args 0, []⟩ S (jL E fn.results.toList Q)) : WC E k args S Q := WC_ext fn hI hF hb hl (Es h)
theorem V0 {E : Env} {k : FuncId} {args : List AV} {S : St} {Q : R → Prop} {g : List AV → St → R} (hI : E.I k = some g) (h : Q (g args S)) : WC E k args S Q :=
  ⟨_, ⟨0, fun m _ => by show Iw E (run E (Dr E) m) k args S = _; unfold Iw; rw [hI]⟩, h⟩
/- The same, for simp: no continuation is a function that simp would look into. -/
def Ye (E : Env) (n : Nat) (b : Code) (Q : O → Prop) : O → Prop := Pi (fun f S => W E n b f S Q) Q
def N6 (E : Env) (n : Nat) (ops : Array Oper) (o : Oper) (l : List Oper) (f : Fr) (S : St) (Q : O → Prop) : Option Bool → OR → Prop
  | none, _ => False
  | some false, _ => Ti n f o.dst (.tup []) S (fun f' S' => WL E n ops l f' S' Q)
  | some true, x => gF E n o f (fun f' S' => WL E n ops l f' S' Q) Q x
def Pp (E : Env) (n : Nat) (ops : Array Oper) (o : Oper) (l : List RS) (f : Fr) (S : St) (Q : O → Prop) : Option Bool → OR → Prop
  | none, _ => False
  | some false, _ => Ti n f o.dst (.tup []) S (fun f' S' => WR E n ops l f' S' Q)
  | some true, x => gF E n o f (fun f' S' => WR E n ops l f' S' Q) Q x
def R3 (E : Env) (n : Nat) (ops : Array Oper) (l : List Oper) (dst : Option Tmp) (f : Fr) (a : AV) (S : St) (Q : O → Prop) : Prop := Ti n f dst a S (fun f' S' => WL E n ops l f' S' Q)
def Oe (E : Env) (n : Nat) (ops : Array Oper) (l : List RS) (dst : Option Tmp) (f : Fr) (a : AV) (S : St) (Q : O → Prop) : Prop := Ti n f dst a S (fun f' S' => WR E n ops l f' S' Q)
def hY (E : Env) (n : Nat) (ops : Array Oper) (l : List Oper) (dst : Option Tmp) (f : Fr) (Q : O → Prop) : R → Prop := retW n f dst (fun f' S' => WL E n ops l f' S' Q) Q
def Wt (E : Env) (n : Nat) (ops : Array Oper) (l : List RS) (dst : Option Tmp) (f : Fr) (Q : O → Prop) : R → Prop := retW n f dst (fun f' S' => WR E n ops l f' S' Q) Q
def jK (ops : Array Oper) (f : Fr) (Q : O → Prop) : O → Prop := fun r => Q (Ko ⟨Gb ops.toList f.tmps, f.dfr⟩ r)
section
variable {E : Env} {n : Nat} {f : Fr} {S : St} {Q : O → Prop} {ops : Array Oper} {t : T AV} {ds : List Dfr}
theorem Cr : W E n .skip f S Q = Q (.out .normal f S) := by unfold W; rfl
theorem Bn {id : Nat} : W E n (.region id ops false) f S Q = WL E n ops ops.toList f S Q := by unfold W; rfl
theorem B4 {id : Nat} : W E n (.region id ops true) f S Q = WD E n ops f S Q := by unfold W; rfl
theorem C9 {a b : Code} : W E n (.seq a b) f S Q = W E n a f S (Ye E n b Q) := by show W E n (.seq a b) f S Q = W E n a f S (Pi (fun f S => W E n b f S Q) Q); conv => lhs; unfold W
theorem Cu {c : Operand} {x y : Code} : W E n (.cond c x y) f S Q = Rg (Cz E.G f.tmps c) (W E n x f S Q) (W E n y f S Q) := by conv => lhs; unfold W
theorem B5 {id : Nat} {c : Code} : W E n (.block id c) f S Q = W E n c f S (Kz id Q) := by conv => lhs; unfold W
theorem Cs {c : Code} : W E n (.loop c) f S Q = WX E n (.loop c) f S Q := by unfold W; rfl
theorem Ct {id : Nat} : W E n (.exit id) f S Q = Q (.out (.exit id) f S) := by unfold W; rfl
theorem Da : W E n .ret f S Q = Q (.out .ret f S) := by unfold W; rfl
theorem Bu {b : Code} : Ye E n b Q (.out .normal f S) = W E n b f S Q := rfl
theorem Be {b : Code} {id : Nat} : Ye E n b Q (.out (.exit id) f S) = Q (.out (.exit id) f S) := rfl
theorem Bo {b : Code} : Ye E n b Q (.out .ret f S) = Q (.out .ret f S) := rfl
theorem Bp {b : Code} {a : AV} : Ye E n b Q (.out (.pan a) f S) = Q (.out (.pan a) f S) := rfl
theorem A2 {id : Nat} : Kz id Q (.out .normal f S) = Q (.out .normal f S) := rfl
theorem A9 {id : Nat} : Kz id Q (.out .ret f S) = Q (.out .ret f S) := rfl
theorem Ba {id : Nat} {a : AV} : Kz id Q (.out (.pan a) f S) = Q (.out (.pan a) f S) := rfl
theorem A5 {id id' : Nat} : Kz id Q (.out (.exit id') f S) = if id' = id then Q (.out .normal f S) else Q (.out (.exit id') f S) := rfl
theorem Dc : WL E n ops [] f S Q = Q (.out .normal f S) := rfl
theorem B6 {o : Oper} {l : List Oper} : WL E n ops (o :: l) f S Q = N6 E n ops o l f S Q (Bv ops o f.tmps) (C0 E f.tmps S o) := by
  show Sm E n ops o f S (fun f' S' => WL E n ops l f' S' Q) Q = _
  unfold Sm
  cases Bv ops o f.tmps with
  | none => rfl
  | some b => cases b <;> rfl
theorem Bm {o : Oper} {l : List Oper} {x : OR} : N6 E n ops o l f S Q (some false) x = R3 E n ops l o.dst f (.tup []) S Q := by cases x <;> rfl
theorem Bh {o : Oper} {l : List Oper} {a : AV} {S' : St} : N6 E n ops o l f S Q (some true) (.val a S') = R3 E n ops l o.dst f a S' Q := rfl
theorem A8 {o : Oper} {l : List Oper} {S' : St} : N6 E n ops o l f S Q (some true) (.skip S') = R3 E n ops l o.dst f (.tup []) S' Q := rfl
theorem A4 {o : Oper} {l : List Oper} {k : FuncId} {args : List AV} {S' : St} : N6 E n ops o l f S Q (some true) (.enter k args S') = WC E k args S' (hY E n ops l o.dst f Q) := rfl
theorem F2 {o : Oper} {l : List Oper} {fn : Fn} {caps args : List AV} {S' : St} : N6 E n ops o l f S Q (some true) (.dfr fn caps args S') = R3 E n ops l o.dst { f with dfr := ⟨fn, caps, args⟩ :: f.dfr } (.tup []) S' Q := rfl
theorem Bi {o : Oper} {l : List Oper} {a : AV} {S' : St} : N6 E n ops o l f S Q (some true) (.pan a S') = Q (.out (.pan a) f S') := rfl
theorem Bg {l : List Oper} {a : AV} : R3 E n ops l none f a S Q = WL E n ops l f S Q := rfl
theorem Bf {l : List Oper} {d : Nat} {a : AV} : R3 E n ops l (some d) ⟨t, ds⟩ a S Q = (d < n ∧ WL E n ops l ⟨t.set d (some a), ds⟩ S Q) := rfl
theorem Bq {l : List Oper} {dst : Option Tmp} {a : AV} : hY E n ops l dst f Q (.ret a S) = R3 E n ops l dst f a S Q := rfl
theorem Br {l : List Oper} {dst : Option Tmp} {a : AV} : hY E n ops l dst f Q (.pan a S) = Q (.out (.pan a) f S) := rfl
theorem Dl : WR E n ops [] f S Q = Q (.out .normal f S) := rfl
theorem Dj {o : Oper} {l : List RS} : WR E n ops (.op o :: l) f S Q = Pp E n ops o l f S Q (Bv ops o f.tmps) (C0 E f.tmps S o) := by
  show Sm E n ops o f S (fun f' S' => WR E n ops l f' S' Q) Q = _
  unfold Sm
  cases Bv ops o f.tmps with
  | none => rfl
  | some b => cases b <;> rfl
theorem Dk {o : Oper} {l : List RS} : WR E n ops (.re o :: l) f S Q = (Db E ops o f.tmps S = true ∧ WR E n ops l f S Q) := rfl
theorem Cw {o : Oper} {l : List RS} {x : OR} : Pp E n ops o l f S Q (some false) x = Oe E n ops l o.dst f (.tup []) S Q := by cases x <;> rfl
theorem Ce {o : Oper} {l : List RS} {a : AV} {S' : St} : Pp E n ops o l f S Q (some true) (.val a S') = Oe E n ops l o.dst f a S' Q := rfl
theorem B0 {o : Oper} {l : List RS} {S' : St} : Pp E n ops o l f S Q (some true) (.skip S') = Oe E n ops l o.dst f (.tup []) S' Q := rfl
theorem Bt {o : Oper} {l : List RS} {k : FuncId} {args : List AV} {S' : St} : Pp E n ops o l f S Q (some true) (.enter k args S') = WC E k args S' (Wt E n ops l o.dst f Q) := rfl
theorem Cf {o : Oper} {l : List RS} {a : AV} {S' : St} : Pp E n ops o l f S Q (some true) (.pan a S') = Q (.out (.pan a) f S') := rfl
theorem Bz {l : List RS} {a : AV} : Oe E n ops l none f a S Q = WR E n ops l f S Q := rfl
theorem By {l : List RS} {d : Nat} {a : AV} : Oe E n ops l (some d) ⟨t, ds⟩ a S Q = (d < n ∧ WR E n ops l ⟨t.set d (some a), ds⟩ S Q) := rfl
theorem Cc {l : List RS} {dst : Option Tmp} {a : AV} : Wt E n ops l dst f Q (.ret a S) = Oe E n ops l dst f a S Q := rfl
theorem Cd {l : List RS} {dst : Option Tmp} {a : AV} : Wt E n ops l dst f Q (.pan a S) = Q (.out (.pan a) f S) := rfl
theorem B9 {x y : Prop} : Rg (some (.v (.bool true))) x y = x := rfl
theorem Ca {x y : Prop} : Rg (some (.v (.bool false))) x y = y := rfl
theorem Bs {g : Fr} : jK ops g Q (.out .normal f S) = Q (.out .normal f S) := rfl
theorem Cv {g : Fr} {a : AV} : jK ops g Q (.out (.pan a) f S) = Q (.out (.pan a) ⟨Gb ops.toList g.tmps, g.dfr⟩ S) := rfl
/-- A drawn region, by one order: numbers of operations, true, or a look again, false. -/
theorem K5 (l : List (Nat × Bool)) (h2 : Mz ops (bm ops.toList []) (Kr ops (bm ops.toList []) ops.size (List.range ops.size) 0) = true)
    (h3 : Kv ops (bm ops.toList []) (Kr ops (bm ops.toList []) ops.size (List.range ops.size) 0) [] = some (Dq ops l)) (h : WR E n ops (Dq ops l) f S (jK ops f Q)) : WD E n ops f S Q := oT h3 h2 h
theorem gU (l : List (Nat × Bool)) {x : FlP} (h1 : Lu E.P ops = some x) (h2 : Mv ops x = some (Dq ops l)) (h3 : x.d < n) (h : WR E n ops (Dq ops l) ⟨f.tmps.set x.d none, f.dfr⟩ S (jK ops f Q)) : WD E n ops f S Q := WD_fl h1 h2 h3 h
theorem Bk {rs : List ResultVar} {Q : R → Prop} : jL E rs Q (.out .ret f S) = C4 E rs f S Q := rfl
theorem Bl {rs : List ResultVar} {Q : R → Prop} {a : AV} : jL E rs Q (.out (.pan a) ⟨t, []⟩ S) = Q (.pan a S) := by show (_ ∧ _) = _; simp
end
end Go.Ax
noncomputable section
namespace Go.Ax
open Go.RowKit
set_option linter.unusedVariables false
set_option linter.unusedSimpArgs false
/-- The names below a number. -/
def Gh.below (γ : Gh) (n : Nat) : Gh := { γ with loc := fun i => if i < n then γ.loc i else none }
/-- A value that says nothing of names of the run's own. -/
def AV.old (n : Nat) : AV → Prop
  | .v _ => True
  | _ => False
theorem Aa.{u} {α : Sort u} {x : Decidable True} (t e : α) : (if True then t else e) = t := if_true t e
theorem Ab.{u} {α : Sort u} {x : Decidable False} (t e : α) : (if False then t else e) = e := if_false t e
theorem Ac (p : Prop) : (True ∧ p) = p := true_and p
theorem Ad (p : Prop) : (p ∧ True) = p := and_true p
theorem Ae.{u} {α : Type u} {a b : α} : (some a).getD b = a := Option.getD_some
theorem Af.{u} {α : Type u} {xs : List α} {i : Nat} : xs.toArray[i]? = xs[i]? := List.getElem?_toArray
theorem Ag.{u} {α : Type u} {a : α} {i : Nat} {l : List α} : (a :: l)[i + 1]? = l[i]? := List.getElem?_cons_succ
theorem Ah.{u} {α : Type u} {a : α} {l : List α} : (a :: l)[0]? = some a := List.getElem?_cons_zero
theorem Ai.{u,v} {α : Type u} {β : Type v} (a : α) (f : α → Option β) : (some a).bind f = f a := Option.bind_some a f
theorem Aj.{u} {α : Type u} (l : List α) : [] ++ l = l := List.nil_append l
theorem Ak.{u} {α : Type u} (l : List α) : l ++ [] = l := List.append_nil l
theorem Al.{u} {α : Type u} [BEq α] [ReflBEq α] (a : α) : (a == a) = true := beq_self_eq_true a
theorem Am : (false = true) = False := Bool.false_eq_true
theorem Ao : (true = false) = False := Bool.true_eq_false
theorem Ap (h : Decidable True) : @decide True h = true := decide_true h
theorem Aq (h : Decidable False) : @decide False h = false := decide_false h
theorem Ar : (!true) = false := Bool.not_true
theorem Au : (!false) = true := Bool.not_false
theorem Av (b : Bool) : (false == b) = !b := Bool.false_beq b
theorem Aw (b : Bool) : (true == b) = b := Bool.true_beq b
theorem Ay.{u} {α : Type u} {a : α} {l : List α} : (a :: l).head? = some a := List.head?_cons
theorem Az.{u} {α : Type u} : ([] : List α).head? = none := List.head?_nil
theorem A0 {α : Type} (t : T α) (n m : Nat) (x : Option α) : (t.set n x).get m = if m = n then x else t.get m := T.get_set t n m x
theorem A1 {α : Type} (n : Nat) : (T.leaf : T α).get n = none := T.get_leaf n
end Go.Ax
