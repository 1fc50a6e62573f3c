/-
  The surroundings of SplitMany: parse.Program of its longer texts known.
-/
import Derived.Test.YtmlelgncmjpcoaaGreatDoorWNr3
import Derived.Test.YtmlelgncmjpcoaaGreatDoorWNr4
import Derived.Test.YtmlelgncmjpcoaaGreatDoorWNr5
noncomputable section
namespace Go.Ax
open Go.RowKit Go.Proofs
set_option linter.unusedVariables false
set_option linter.unusedSimpArgs false
set_option maxRecDepth 100000
/-- A text is looked for in a table. -/
def lookK (tbl : List (List UInt8 × AV)) (s : List UInt8) (S : St) : R := List.rec (motive := fun _ => R) .fail (fun x _ ih => Bool.rec (motive := fun _ => R) ih (.ret x.2 S) (eqBytes s x.1)) tbl
theorem lookK_some {s : List UInt8} {S : St} : ∀ {tbl : List (List UInt8 × AV)}, lookK tbl s S ≠ .fail → ∃ a, (s, a) ∈ tbl ∧ lookK tbl s S = .ret a S
  | [], h => absurd rfl h
  | x :: r, h => by
    have e : lookK (x :: r) s S = Bool.rec (motive := fun _ => R) (lookK r s S) (.ret x.2 S) (eqBytes s x.1) := rfl
    rw [e] at h ⊢
    rw [eqBytes_eq] at h ⊢
    cases hb : (s == x.1) with
    | true =>
      have hb : s = x.1 := by simpa using hb
      exact ⟨x.2, by rw [hb]; exact List.mem_cons_self .., rfl⟩
    | false =>
      rw [hb] at h
      obtain ⟨a, h1, h2⟩ := lookK_some h
      exact ⟨a, List.mem_cons_of_mem _ h1, h2⟩
def progI (args : List AV) (S : St) : R := match args with
  | [.v (.string s)] => lookK smTbl s.data.toList S
  | _ => .fail
theorem sm_tbl : ∀ x ∈ smTbl, cleanR (callX E1 2000 8 [strN x.1] St0) = some x.2 := by
  intro x hx
  simp only [smTbl, List.mem_cons, List.not_mem_nil, or_false] at hx
  rcases hx with rfl | rfl | rfl
  · exact sm_read3
  · exact sm_read4
  · exact sm_read5
theorem v_plain {γ γ' : Gh} {w w' : World} {a : Value} {x : Value} (h : VR γ w (.v a) x) : VR γ' w' (.v a) x := by
  cases h with
  | v _ h => exact .v _ h
theorem prog_I (base : Nat) (w0 : World) (args : List AV) (S : St) (hne : progI args S ≠ .fail) (γ : Gh) (w : World) (vs : List Value) (hS : SR base w0 γ S w) (hv : VRL γ w args vs) : Calls Tryz.prog 8 vs.toArray w (RetOk base w0 γ S w (progI args S)) := by
  generalize hr : progI args S = r at hne ⊢
  unfold progI at hr
  split at hr
  case h_2 => exact absurd hr.symm hne
  rename_i s
  obtain ⟨a, hm, he⟩ := lookK_some (tbl := smTbl) (s := s.data.toList) (S := S) (by rw [hr]; exact hne)
  rw [he] at hr; subst hr
  have hs : AV.v (.string s) = strN s.data.toList := rfl
  refine memo (E := E1) e1_ok e1_intr e1_mix rfl (sm_tbl _ hm) (by kernel_rfl) hS ?_
  refine ⟨hv.1, fun k h1 h2 => ?_⟩
  match k, h1 with
  | 0, _ =>
    have := hv.2 0 (by simp) h2
    exact v_plain this
def knownI2 (k : Nat) : Option (List AV → St → R) := Bool.rec (E1.I k) (some progI) (Nat.beq k 8)
def E2 : Env := { P := Tryz.prog, G := fun _ => none, F := E1.F, I := knownI2, M := rowM }
theorem e2_ok : E2.Ok := ⟨fun k fn h => e1_ok.fn k fn h⟩
theorem e2_mix : E2.P.follows .mixedOrders = true := e1_mix
theorem e2_intr : IntrOk E2 := fun k g hk base w0 args S hne γ w vs hS hg hv => by
  have hk2 : (Bool.rec (E1.I k) (some progI) (Nat.beq k 8) : Option (List AV → St → R)) = some g := hk
  cases hb : Nat.beq k 8 with
  | true =>
    rw [hb] at hk2
    injection hk2 with hk2; subst hk2
    have : k = 8 := Nat.eq_of_beq_eq_true hb
    subst this
    exact prog_I base w0 args S hne γ w vs hS hv
  | false =>
    rw [hb] at hk2
    exact e1_intr k g hk2 base w0 args S hne γ w vs hS hg hv
end Go.Ax
