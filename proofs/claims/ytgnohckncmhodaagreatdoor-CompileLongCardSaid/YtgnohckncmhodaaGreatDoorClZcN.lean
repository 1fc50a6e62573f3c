/-
  CompileLong: the nodes of its text, and that there is code of them; awake.
-/
import Derived.Test.YtgnohckncmhodaaGreatDoorClG13
set_option linter.unusedVariables false
set_option linter.unusedSimpArgs false
noncomputable section
namespace Go.Ax
open Go.RowKit Go.Proofs
set_option linter.unusedVariables false
set_option linter.unusedSimpArgs false
set_option maxRecDepth 100000
/-- The nodes of the law's text. -/
def nodesL : AV := .sl 0 0 6 [.agg [.v (.string ⟨#[102]⟩), .v (.int .i64 (5)), .sl 0 0 6 [.agg [.v (.string ⟨#[120]⟩), .v (.int .i64 (7)), .v (.bool false), .v (.bool false), .v (.string ⟨#[]⟩), .v (.bool false)]], .sl 0 0 6 [.agg [.v (.string ⟨#[121]⟩), .v (.int .i64 (24)), .v (.bool false), .v (.bool false), .v (.string ⟨#[]⟩), .v (.bool false)]], .nils, .sl 0 0 8 [.agg [.sl 0 0 2 [.agg [.v (.string ⟨#[121]⟩), .v (.int .i64 (36))]], .v (.bool false), .v (.int .i64 (6)), .v (.int .i64 (42)), .v (.int .i64 (0)), .v (.string ⟨#[43]⟩), .v (.bool false), .sl 0 0 6 [.agg [.v (.int .i64 (3)), .v (.int .i64 (40)), .v (.int .i64 (0)), .v (.string ⟨#[120]⟩), .v (.bool false), .nils], .agg [.v (.int .i64 (1)), .v (.int .i64 (44)), .v (.int .i64 (1)), .v (.string ⟨#[]⟩), .v (.bool false), .nils]]]]]]
def parR (k : Nat) : AV := Bool.rec (.tup [.nils, .agg (fltC 4000 3)]) (.tup [nodesL, .agg (fltC 0 0)]) (Nat.ble k 150)
theorem cl_awake (w : World) : Calls Tryz.prog 10 #[] w fun e w' => e = .returned (.bool true) ∧ Below w.heap.size w w' :=
  callsX_true (E := E2) e2_ok e2_intr e2_mix rfl (m := 2000) (k := 10) (args := []) (by kernel_rfl) (by kernel_rfl) (vs := []) ⟨rfl, fun k hk => by cases hk⟩
def isNod (r : R) : Bool := match r with
  | .ret (.tup [.ptr _ 0, .agg [.v (.int .i64 0), .v (.int .i64 0)]]) _ => true
  | _ => false
theorem nod_run : isNod (callX E2 2000 29 [nodesL] St0) = true := by kernel_rfl
theorem isNod_ok {r : R} (h : isNod r = true) : ∃ id S', r = .ret (.tup [.ptr id 0, .agg (fltC 0 0)]) S' := by
  unfold isNod at h
  split at h
  · rename_i id S'
    exact ⟨id, S', rfl⟩
  · cases h
/-- Of these nodes there is code. -/
def nodI (args : List AV) (S : St) : R := match args with
  | [a] => Bool.rec .fail (.ret (.tup [.ep [], .agg (fltC 0 0)]) S) (beqA a nodesL)
  | _ => .fail
theorem nod_I (base : Nat) (w0 : World) (args : List AV) (S : St) (hne : nodI args S ≠ .fail) (γ : Gh) (w : World) (vs : List Value) (hS : SR base w0 γ S w) (hv : VRL γ w args vs) : Calls Tryz.prog 29 vs.toArray w (RetOk base w0 γ S w (nodI args S)) := by
  generalize hr : nodI args S = r at hne ⊢
  unfold nodI at hr
  split at hr
  case h_2 => exact absurd hr.symm hne
  rename_i a
  cases hb : beqA a nodesL with
  | false => rw [hb] at hr; exact absurd hr.symm hne
  | true =>
    rw [hb] at hr
    have ha := beqA_eq _ _ hb
    subst ha
    have hr : R.ret (.tup [.ep [], .agg (fltC 0 0)]) S = r := hr
    subst hr
    obtain ⟨id, S1, hst⟩ := isNod_ok nod_run
    have hS0 : SR w.heap.size w ⟨fun _ => none, γ.im⟩ St0 w := ⟨.refl _ _, Nat.le_refl _, fun b o h => hS.imc b o h, fun _ _ => ⟨rfl, rfl⟩, Nat.le_refl _, fun _ _ _ h => (by cases h), fun _ _ h => (by cases h), fun _ _ _ _ _ _ _ h => (by cases h)⟩
    obtain ⟨v, rfl⟩ : ∃ v, vs = [v] := by
      cases vs with
      | nil => exact absurd hv.1 (by simp)
      | cons v t => cases t with
        | nil => exact ⟨v, rfl⟩
        | cons _ _ => exact absurd hv.1 (by simp)
    have hv0 : VR γ w nodesL v := hv.2 0 (by simp) (by simp)
    have hc : VR ⟨fun _ => none, γ.im⟩ w (Go.Ax.clean nodesL) v := VR.clean (γ := γ) (γ' := ⟨fun _ => none, γ.im⟩) (fun b o (h : γ.im b o) => h) hv0 (by kernel_rfl)
    rw [show Go.Ax.clean nodesL = nodesL from by kernel_rfl] at hc
    have hv1 : VRL ⟨fun _ => none, γ.im⟩ w [nodesL] [v] := VRL.cons hc (VRL.nil _ _)
    have := callX_ok e2_ok e2_intr e2_mix 2000 w.heap.size w 29 [nodesL] St0 (by rw [hst]; intro e; cases e) _ w [v] hS0 GR.none hv1 (by kernel_rfl)
    rw [hst] at this
    refine this.mono fun e w' he => ?_
    obtain ⟨γ', v', h1, h2, h3, rfl⟩ := he
    have hi : ∀ b o, (⟨fun _ => none, fun b o => γ'.im b o ∧ w.heap.size ≤ b⟩ : Gh).im b o → w.heap.size ≤ b ∧ ∃ v, w'.cell? ⟨b, o, none⟩ = some v := fun b o ho => ⟨ho.2, h1.imc b o ho.1⟩
    obtain ⟨q1, q2⟩ := hS.more h1.below hi
    refine ⟨_, v', q1, q2, ?_, rfl⟩
    cases h3 with
    | tup _ xs hx hh =>
      refine .tup _ xs hx (fun k hk1 hk2 => ?_)
      match k, hk1 with
      | 0, _ =>
        have := hh 0 (by simp) hk2
        simp only [List.getElem_cons_zero] at this ⊢
        generalize xs[0] = z at this
        cases this with
        | ptr _ _ b s h => exact .ep [] b (s + 0) (fun _ => undef) (fun k h => absurd h (Nat.not_lt_zero k)) (fun _ h => absurd h List.not_mem_nil) (fun k h => absurd h (Nat.not_lt_zero k))
      | 1, _ => exact (hh 1 (by simp) hk2).aggPlain (flt_plain 0 0)
end Go.Ax
