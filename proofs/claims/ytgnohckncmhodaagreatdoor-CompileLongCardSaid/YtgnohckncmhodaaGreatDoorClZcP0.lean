/-
  What the parser answers of the texts of CompileLong.
-/
import Derived.Test.YtgnohckncmhodaaGreatDoorClZcN
set_option linter.unusedVariables false
set_option linter.unusedSimpArgs false
namespace Go.Ax
open Go.RowKit Go.Proofs
set_option linter.unusedVariables false
set_option linter.unusedSimpArgs false
set_option maxRecDepth 100000
theorem par_c0 : cleanR (callX E2 2000 20 [strS (clT (3800 + 0))] St0) = some (parR 0) := by kernel_rfl
theorem par_c1 : cleanR (callX E2 2000 20 [strS (clT (3800 + 1))] St0) = some (parR 1) := by kernel_rfl
theorem par_c2 : cleanR (callX E2 2000 20 [strS (clT (3800 + 2))] St0) = some (parR 2) := by kernel_rfl
theorem par_c3 : cleanR (callX E2 2000 20 [strS (clT (3800 + 3))] St0) = some (parR 3) := by kernel_rfl
theorem par_c4 : cleanR (callX E2 2000 20 [strS (clT (3800 + 4))] St0) = some (parR 4) := by kernel_rfl
theorem par_c5 : cleanR (callX E2 2000 20 [strS (clT (3800 + 5))] St0) = some (parR 5) := by kernel_rfl
theorem par_c6 : cleanR (callX E2 2000 20 [strS (clT (3800 + 6))] St0) = some (parR 6) := by kernel_rfl
theorem par_c7 : cleanR (callX E2 2000 20 [strS (clT (3800 + 7))] St0) = some (parR 7) := by kernel_rfl
theorem par_c8 : cleanR (callX E2 2000 20 [strS (clT (3800 + 8))] St0) = some (parR 8) := by kernel_rfl
theorem par_c9 : cleanR (callX E2 2000 20 [strS (clT (3800 + 9))] St0) = some (parR 9) := by kernel_rfl
theorem par_c10 : cleanR (callX E2 2000 20 [strS (clT (3800 + 10))] St0) = some (parR 10) := by kernel_rfl
theorem par_c11 : cleanR (callX E2 2000 20 [strS (clT (3800 + 11))] St0) = some (parR 11) := by kernel_rfl
theorem par_c12 : cleanR (callX E2 2000 20 [strS (clT (3800 + 12))] St0) = some (parR 12) := by kernel_rfl
theorem par_c13 : cleanR (callX E2 2000 20 [strS (clT (3800 + 13))] St0) = some (parR 13) := by kernel_rfl
theorem par_c14 : cleanR (callX E2 2000 20 [strS (clT (3800 + 14))] St0) = some (parR 14) := by kernel_rfl
theorem par_c15 : cleanR (callX E2 2000 20 [strS (clT (3800 + 15))] St0) = some (parR 15) := by kernel_rfl
theorem par_c16 : cleanR (callX E2 2000 20 [strS (clT (3800 + 16))] St0) = some (parR 16) := by kernel_rfl
theorem par_c17 : cleanR (callX E2 2000 20 [strS (clT (3800 + 17))] St0) = some (parR 17) := by kernel_rfl
theorem par_c18 : cleanR (callX E2 2000 20 [strS (clT (3800 + 18))] St0) = some (parR 18) := by kernel_rfl
theorem par_c19 : cleanR (callX E2 2000 20 [strS (clT (3800 + 19))] St0) = some (parR 19) := by kernel_rfl
theorem par_c20 : cleanR (callX E2 2000 20 [strS (clT (3800 + 20))] St0) = some (parR 20) := by kernel_rfl
theorem par_c21 : cleanR (callX E2 2000 20 [strS (clT (3800 + 21))] St0) = some (parR 21) := by kernel_rfl
theorem par_c22 : cleanR (callX E2 2000 20 [strS (clT (3800 + 22))] St0) = some (parR 22) := by kernel_rfl
theorem par_c23 : cleanR (callX E2 2000 20 [strS (clT (3800 + 23))] St0) = some (parR 23) := by kernel_rfl
theorem par_c24 : cleanR (callX E2 2000 20 [strS (clT (3800 + 24))] St0) = some (parR 24) := by kernel_rfl
end Go.Ax
