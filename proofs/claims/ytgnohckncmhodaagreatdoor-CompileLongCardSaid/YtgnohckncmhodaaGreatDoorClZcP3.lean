/-
  What the parser answers of the texts of CompileLong.
-/
import Derived.Test.YtgnohckncmhodaaGreatDoorClZcN
set_option linter.unusedVariables false
set_option linter.unusedSimpArgs false
namespace Go.Ax
open Go.RowKit Go.Proofs
set_option linter.unusedVariables false
set_option linter.unusedSimpArgs false
set_option maxRecDepth 100000
theorem par_c75 : cleanR (callX E2 2000 20 [strS (clT (3800 + 75))] St0) = some (parR 75) := by kernel_rfl
theorem par_c76 : cleanR (callX E2 2000 20 [strS (clT (3800 + 76))] St0) = some (parR 76) := by kernel_rfl
theorem par_c77 : cleanR (callX E2 2000 20 [strS (clT (3800 + 77))] St0) = some (parR 77) := by kernel_rfl
theorem par_c78 : cleanR (callX E2 2000 20 [strS (clT (3800 + 78))] St0) = some (parR 78) := by kernel_rfl
theorem par_c79 : cleanR (callX E2 2000 20 [strS (clT (3800 + 79))] St0) = some (parR 79) := by kernel_rfl
theorem par_c80 : cleanR (callX E2 2000 20 [strS (clT (3800 + 80))] St0) = some (parR 80) := by kernel_rfl
theorem par_c81 : cleanR (callX E2 2000 20 [strS (clT (3800 + 81))] St0) = some (parR 81) := by kernel_rfl
theorem par_c82 : cleanR (callX E2 2000 20 [strS (clT (3800 + 82))] St0) = some (parR 82) := by kernel_rfl
theorem par_c83 : cleanR (callX E2 2000 20 [strS (clT (3800 + 83))] St0) = some (parR 83) := by kernel_rfl
theorem par_c84 : cleanR (callX E2 2000 20 [strS (clT (3800 + 84))] St0) = some (parR 84) := by kernel_rfl
theorem par_c85 : cleanR (callX E2 2000 20 [strS (clT (3800 + 85))] St0) = some (parR 85) := by kernel_rfl
theorem par_c86 : cleanR (callX E2 2000 20 [strS (clT (3800 + 86))] St0) = some (parR 86) := by kernel_rfl
theorem par_c87 : cleanR (callX E2 2000 20 [strS (clT (3800 + 87))] St0) = some (parR 87) := by kernel_rfl
theorem par_c88 : cleanR (callX E2 2000 20 [strS (clT (3800 + 88))] St0) = some (parR 88) := by kernel_rfl
theorem par_c89 : cleanR (callX E2 2000 20 [strS (clT (3800 + 89))] St0) = some (parR 89) := by kernel_rfl
theorem par_c90 : cleanR (callX E2 2000 20 [strS (clT (3800 + 90))] St0) = some (parR 90) := by kernel_rfl
theorem par_c91 : cleanR (callX E2 2000 20 [strS (clT (3800 + 91))] St0) = some (parR 91) := by kernel_rfl
theorem par_c92 : cleanR (callX E2 2000 20 [strS (clT (3800 + 92))] St0) = some (parR 92) := by kernel_rfl
theorem par_c93 : cleanR (callX E2 2000 20 [strS (clT (3800 + 93))] St0) = some (parR 93) := by kernel_rfl
theorem par_c94 : cleanR (callX E2 2000 20 [strS (clT (3800 + 94))] St0) = some (parR 94) := by kernel_rfl
theorem par_c95 : cleanR (callX E2 2000 20 [strS (clT (3800 + 95))] St0) = some (parR 95) := by kernel_rfl
theorem par_c96 : cleanR (callX E2 2000 20 [strS (clT (3800 + 96))] St0) = some (parR 96) := by kernel_rfl
theorem par_c97 : cleanR (callX E2 2000 20 [strS (clT (3800 + 97))] St0) = some (parR 97) := by kernel_rfl
theorem par_c98 : cleanR (callX E2 2000 20 [strS (clT (3800 + 98))] St0) = some (parR 98) := by kernel_rfl
theorem par_c99 : cleanR (callX E2 2000 20 [strS (clT (3800 + 99))] St0) = some (parR 99) := by kernel_rfl
end Go.Ax
