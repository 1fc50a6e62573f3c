/-
  SoloRows: up to its loop; delays.
-/
import Derived.Test.YtpjffjgdnendbaaGreatDoorWUq
noncomputable section
namespace Go.Ax
open Go.RowKit Go.Proofs
set_option linter.unusedVariables false
set_option linter.unusedSimpArgs false
set_option maxRecDepth 100000

noncomputable def srC1 : Code := match Tryz.f3.body with
  | some (.seq _ (.seq _ (.seq _ (.seq _ (.seq a _))))) => a
  | _ => .skip
noncomputable def srC2 : Code := match Tryz.f3.body with
  | some (.seq _ (.seq _ (.seq _ (.seq _ (.seq _ (.seq a _)))))) => a
  | _ => .skip
noncomputable def srC3 : Code := match Tryz.f3.body with
  | some (.seq _ (.seq _ (.seq _ (.seq _ (.seq _ (.seq _ (.seq a _))))))) => a
  | _ => .skip
noncomputable def srC4 : Code := match Tryz.f3.body with
  | some (.seq _ (.seq _ (.seq _ (.seq _ (.seq _ (.seq _ (.seq _ (.seq a _)))))))) => a
  | _ => .skip
noncomputable def srO1 (na : AV) (d : Nat) : O := (comp E1 75 srC1 none).c (callX E1 2000) (frL [(0, na), (1, .v (.int .i64 (d : Int)))]) [] St0
noncomputable def srO2 (na : AV) (d : Nat) : O := (comp E1 75 srC2 none).c (callX E1 2000) (outF (srO1 na d)) [] (outS (srO1 na d))
noncomputable def srO3 (na : AV) (d : Nat) : O := (comp E1 75 srC3 none).c (callX E1 2000) (outF (srO2 na d)) [] (outS (srO2 na d))
noncomputable def srO4 (na : AV) (d : Nat) : O := (comp E1 75 srC4 none).c (callX E1 2000) (outF (srO3 na d)) [] (outS (srO3 na d))
theorem sum_eq (a b : Int) : wrap64R (addI a b) = IntKind.i64.wrap (a + b) := by rw [wrap64R_eq, addI_eq]
/-- What stands so many places ahead of the end. -/
def qv (s : Int) (d i k : Nat) : Int := if d < i + k then s else 7
theorem qv_succ (s : Int) (d i k : Nat) : qv s d (i + 1) k = qv s d i (k + 1) := by
  unfold qv
  have : d < i + 1 + k ↔ d < i + (k + 1) := by omega
  simp only [this]
theorem qv_last' (s : Int) (d i k : Nat) (h : d < k) : qv s d i k = s := by unfold qv; rw [if_pos (by omega)]
theorem qv_want (d i : Nat) (a b : Int) : qv (IntKind.i64.wrap (a + b)) d i 1 = wantD d i a b := by
  unfold qv wantD
  by_cases h : i < d
  · rw [if_neg (by omega), if_pos h]
  · rw [if_pos (by omega), if_neg h]
theorem qv_last0 (s : Int) (i : Nat) : qv s 0 i 1 = s := qv_last' s 0 i 1 (by omega)
theorem qv_last1 (s : Int) (i : Nat) : qv s 1 i 2 = s := qv_last' s 1 i 2 (by omega)
theorem qv_last2 (s : Int) (i : Nat) : qv s 2 i 3 = s := qv_last' s 2 i 3 (by omega)
theorem qv_last3 (s : Int) (i : Nat) : qv s 3 i 4 = s := qv_last' s 3 i 4 (by omega)
theorem qv_last4 (s : Int) (i : Nat) : qv s 4 i 5 = s := qv_last' s 4 i 5 (by omega)
theorem qv_last5 (s : Int) (i : Nat) : qv s 5 i 6 = s := qv_last' s 5 i 6 (by omega)
theorem qv_last6 (s : Int) (i : Nat) : qv s 6 i 7 = s := qv_last' s 6 i 7 (by omega)
theorem qv_last7 (s : Int) (i : Nat) : qv s 7 i 8 = s := qv_last' s 7 i 8 (by omega)
theorem qv_last8 (s : Int) (i : Nat) : qv s 8 i 9 = s := qv_last' s 8 i 9 (by omega)
theorem qv_last9 (s : Int) (i : Nat) : qv s 9 i 10 = s := qv_last' s 9 i 10 (by omega)
end Go.Ax
