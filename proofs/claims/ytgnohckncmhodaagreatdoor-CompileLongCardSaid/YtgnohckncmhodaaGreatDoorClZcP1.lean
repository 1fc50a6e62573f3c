/-
  What the parser answers of the texts of CompileLong.
-/
import Derived.Test.YtgnohckncmhodaaGreatDoorClZcN
set_option linter.unusedVariables false
set_option linter.unusedSimpArgs false
namespace Go.Ax
open Go.RowKit Go.Proofs
set_option linter.unusedVariables false
set_option linter.unusedSimpArgs false
set_option maxRecDepth 100000
theorem par_c25 : cleanR (callX E2 2000 20 [strS (clT (3800 + 25))] St0) = some (parR 25) := by kernel_rfl
theorem par_c26 : cleanR (callX E2 2000 20 [strS (clT (3800 + 26))] St0) = some (parR 26) := by kernel_rfl
theorem par_c27 : cleanR (callX E2 2000 20 [strS (clT (3800 + 27))] St0) = some (parR 27) := by kernel_rfl
theorem par_c28 : cleanR (callX E2 2000 20 [strS (clT (3800 + 28))] St0) = some (parR 28) := by kernel_rfl
theorem par_c29 : cleanR (callX E2 2000 20 [strS (clT (3800 + 29))] St0) = some (parR 29) := by kernel_rfl
theorem par_c30 : cleanR (callX E2 2000 20 [strS (clT (3800 + 30))] St0) = some (parR 30) := by kernel_rfl
theorem par_c31 : cleanR (callX E2 2000 20 [strS (clT (3800 + 31))] St0) = some (parR 31) := by kernel_rfl
theorem par_c32 : cleanR (callX E2 2000 20 [strS (clT (3800 + 32))] St0) = some (parR 32) := by kernel_rfl
theorem par_c33 : cleanR (callX E2 2000 20 [strS (clT (3800 + 33))] St0) = some (parR 33) := by kernel_rfl
theorem par_c34 : cleanR (callX E2 2000 20 [strS (clT (3800 + 34))] St0) = some (parR 34) := by kernel_rfl
theorem par_c35 : cleanR (callX E2 2000 20 [strS (clT (3800 + 35))] St0) = some (parR 35) := by kernel_rfl
theorem par_c36 : cleanR (callX E2 2000 20 [strS (clT (3800 + 36))] St0) = some (parR 36) := by kernel_rfl
theorem par_c37 : cleanR (callX E2 2000 20 [strS (clT (3800 + 37))] St0) = some (parR 37) := by kernel_rfl
theorem par_c38 : cleanR (callX E2 2000 20 [strS (clT (3800 + 38))] St0) = some (parR 38) := by kernel_rfl
theorem par_c39 : cleanR (callX E2 2000 20 [strS (clT (3800 + 39))] St0) = some (parR 39) := by kernel_rfl
theorem par_c40 : cleanR (callX E2 2000 20 [strS (clT (3800 + 40))] St0) = some (parR 40) := by kernel_rfl
theorem par_c41 : cleanR (callX E2 2000 20 [strS (clT (3800 + 41))] St0) = some (parR 41) := by kernel_rfl
theorem par_c42 : cleanR (callX E2 2000 20 [strS (clT (3800 + 42))] St0) = some (parR 42) := by kernel_rfl
theorem par_c43 : cleanR (callX E2 2000 20 [strS (clT (3800 + 43))] St0) = some (parR 43) := by kernel_rfl
theorem par_c44 : cleanR (callX E2 2000 20 [strS (clT (3800 + 44))] St0) = some (parR 44) := by kernel_rfl
theorem par_c45 : cleanR (callX E2 2000 20 [strS (clT (3800 + 45))] St0) = some (parR 45) := by kernel_rfl
theorem par_c46 : cleanR (callX E2 2000 20 [strS (clT (3800 + 46))] St0) = some (parR 46) := by kernel_rfl
theorem par_c47 : cleanR (callX E2 2000 20 [strS (clT (3800 + 47))] St0) = some (parR 47) := by kernel_rfl
theorem par_c48 : cleanR (callX E2 2000 20 [strS (clT (3800 + 48))] St0) = some (parR 48) := by kernel_rfl
theorem par_c49 : cleanR (callX E2 2000 20 [strS (clT (3800 + 49))] St0) = some (parR 49) := by kernel_rfl
end Go.Ax
