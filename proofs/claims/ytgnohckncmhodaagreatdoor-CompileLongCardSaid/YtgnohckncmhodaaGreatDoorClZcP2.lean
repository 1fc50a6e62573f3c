/-
  What the parser answers of the texts of CompileLong.
-/
import Derived.Test.YtgnohckncmhodaaGreatDoorClZcN
set_option linter.unusedVariables false
set_option linter.unusedSimpArgs false
namespace Go.Ax
open Go.RowKit Go.Proofs
set_option linter.unusedVariables false
set_option linter.unusedSimpArgs false
set_option maxRecDepth 100000
theorem par_c50 : cleanR (callX E2 2000 20 [strS (clT (3800 + 50))] St0) = some (parR 50) := by kernel_rfl
theorem par_c51 : cleanR (callX E2 2000 20 [strS (clT (3800 + 51))] St0) = some (parR 51) := by kernel_rfl
theorem par_c52 : cleanR (callX E2 2000 20 [strS (clT (3800 + 52))] St0) = some (parR 52) := by kernel_rfl
theorem par_c53 : cleanR (callX E2 2000 20 [strS (clT (3800 + 53))] St0) = some (parR 53) := by kernel_rfl
theorem par_c54 : cleanR (callX E2 2000 20 [strS (clT (3800 + 54))] St0) = some (parR 54) := by kernel_rfl
theorem par_c55 : cleanR (callX E2 2000 20 [strS (clT (3800 + 55))] St0) = some (parR 55) := by kernel_rfl
theorem par_c56 : cleanR (callX E2 2000 20 [strS (clT (3800 + 56))] St0) = some (parR 56) := by kernel_rfl
theorem par_c57 : cleanR (callX E2 2000 20 [strS (clT (3800 + 57))] St0) = some (parR 57) := by kernel_rfl
theorem par_c58 : cleanR (callX E2 2000 20 [strS (clT (3800 + 58))] St0) = some (parR 58) := by kernel_rfl
theorem par_c59 : cleanR (callX E2 2000 20 [strS (clT (3800 + 59))] St0) = some (parR 59) := by kernel_rfl
theorem par_c60 : cleanR (callX E2 2000 20 [strS (clT (3800 + 60))] St0) = some (parR 60) := by kernel_rfl
theorem par_c61 : cleanR (callX E2 2000 20 [strS (clT (3800 + 61))] St0) = some (parR 61) := by kernel_rfl
theorem par_c62 : cleanR (callX E2 2000 20 [strS (clT (3800 + 62))] St0) = some (parR 62) := by kernel_rfl
theorem par_c63 : cleanR (callX E2 2000 20 [strS (clT (3800 + 63))] St0) = some (parR 63) := by kernel_rfl
theorem par_c64 : cleanR (callX E2 2000 20 [strS (clT (3800 + 64))] St0) = some (parR 64) := by kernel_rfl
theorem par_c65 : cleanR (callX E2 2000 20 [strS (clT (3800 + 65))] St0) = some (parR 65) := by kernel_rfl
theorem par_c66 : cleanR (callX E2 2000 20 [strS (clT (3800 + 66))] St0) = some (parR 66) := by kernel_rfl
theorem par_c67 : cleanR (callX E2 2000 20 [strS (clT (3800 + 67))] St0) = some (parR 67) := by kernel_rfl
theorem par_c68 : cleanR (callX E2 2000 20 [strS (clT (3800 + 68))] St0) = some (parR 68) := by kernel_rfl
theorem par_c69 : cleanR (callX E2 2000 20 [strS (clT (3800 + 69))] St0) = some (parR 69) := by kernel_rfl
theorem par_c70 : cleanR (callX E2 2000 20 [strS (clT (3800 + 70))] St0) = some (parR 70) := by kernel_rfl
theorem par_c71 : cleanR (callX E2 2000 20 [strS (clT (3800 + 71))] St0) = some (parR 71) := by kernel_rfl
theorem par_c72 : cleanR (callX E2 2000 20 [strS (clT (3800 + 72))] St0) = some (parR 72) := by kernel_rfl
theorem par_c73 : cleanR (callX E2 2000 20 [strS (clT (3800 + 73))] St0) = some (parR 73) := by kernel_rfl
theorem par_c74 : cleanR (callX E2 2000 20 [strS (clT (3800 + 74))] St0) = some (parR 74) := by kernel_rfl
end Go.Ax
