/-
  What the parser answers of the texts of CompileLong.
-/
import Derived.Test.YtgnohckncmhodaaGreatDoorClZcN
set_option linter.unusedVariables false
set_option linter.unusedSimpArgs false
namespace Go.Ax
open Go.RowKit Go.Proofs
set_option linter.unusedVariables false
set_option linter.unusedSimpArgs false
set_option maxRecDepth 100000
theorem par_c100 : cleanR (callX E2 2000 20 [strS (clT (3800 + 100))] St0) = some (parR 100) := by kernel_rfl
theorem par_c101 : cleanR (callX E2 2000 20 [strS (clT (3800 + 101))] St0) = some (parR 101) := by kernel_rfl
theorem par_c102 : cleanR (callX E2 2000 20 [strS (clT (3800 + 102))] St0) = some (parR 102) := by kernel_rfl
theorem par_c103 : cleanR (callX E2 2000 20 [strS (clT (3800 + 103))] St0) = some (parR 103) := by kernel_rfl
theorem par_c104 : cleanR (callX E2 2000 20 [strS (clT (3800 + 104))] St0) = some (parR 104) := by kernel_rfl
theorem par_c105 : cleanR (callX E2 2000 20 [strS (clT (3800 + 105))] St0) = some (parR 105) := by kernel_rfl
theorem par_c106 : cleanR (callX E2 2000 20 [strS (clT (3800 + 106))] St0) = some (parR 106) := by kernel_rfl
theorem par_c107 : cleanR (callX E2 2000 20 [strS (clT (3800 + 107))] St0) = some (parR 107) := by kernel_rfl
theorem par_c108 : cleanR (callX E2 2000 20 [strS (clT (3800 + 108))] St0) = some (parR 108) := by kernel_rfl
theorem par_c109 : cleanR (callX E2 2000 20 [strS (clT (3800 + 109))] St0) = some (parR 109) := by kernel_rfl
theorem par_c110 : cleanR (callX E2 2000 20 [strS (clT (3800 + 110))] St0) = some (parR 110) := by kernel_rfl
theorem par_c111 : cleanR (callX E2 2000 20 [strS (clT (3800 + 111))] St0) = some (parR 111) := by kernel_rfl
theorem par_c112 : cleanR (callX E2 2000 20 [strS (clT (3800 + 112))] St0) = some (parR 112) := by kernel_rfl
theorem par_c113 : cleanR (callX E2 2000 20 [strS (clT (3800 + 113))] St0) = some (parR 113) := by kernel_rfl
theorem par_c114 : cleanR (callX E2 2000 20 [strS (clT (3800 + 114))] St0) = some (parR 114) := by kernel_rfl
theorem par_c115 : cleanR (callX E2 2000 20 [strS (clT (3800 + 115))] St0) = some (parR 115) := by kernel_rfl
theorem par_c116 : cleanR (callX E2 2000 20 [strS (clT (3800 + 116))] St0) = some (parR 116) := by kernel_rfl
theorem par_c117 : cleanR (callX E2 2000 20 [strS (clT (3800 + 117))] St0) = some (parR 117) := by kernel_rfl
theorem par_c118 : cleanR (callX E2 2000 20 [strS (clT (3800 + 118))] St0) = some (parR 118) := by kernel_rfl
theorem par_c119 : cleanR (callX E2 2000 20 [strS (clT (3800 + 119))] St0) = some (parR 119) := by kernel_rfl
theorem par_c120 : cleanR (callX E2 2000 20 [strS (clT (3800 + 120))] St0) = some (parR 120) := by kernel_rfl
theorem par_c121 : cleanR (callX E2 2000 20 [strS (clT (3800 + 121))] St0) = some (parR 121) := by kernel_rfl
theorem par_c122 : cleanR (callX E2 2000 20 [strS (clT (3800 + 122))] St0) = some (parR 122) := by kernel_rfl
theorem par_c123 : cleanR (callX E2 2000 20 [strS (clT (3800 + 123))] St0) = some (parR 123) := by kernel_rfl
theorem par_c124 : cleanR (callX E2 2000 20 [strS (clT (3800 + 124))] St0) = some (parR 124) := by kernel_rfl
end Go.Ax
