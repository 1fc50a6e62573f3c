/-
  What the parser answers of the texts of CompileLong.
-/
import Derived.Test.YtgnohckncmhodaaGreatDoorClZcN
set_option linter.unusedVariables false
set_option linter.unusedSimpArgs false
namespace Go.Ax
open Go.RowKit Go.Proofs
set_option linter.unusedVariables false
set_option linter.unusedSimpArgs false
set_option maxRecDepth 100000
theorem par_c125 : cleanR (callX E2 2000 20 [strS (clT (3800 + 125))] St0) = some (parR 125) := by kernel_rfl
theorem par_c126 : cleanR (callX E2 2000 20 [strS (clT (3800 + 126))] St0) = some (parR 126) := by kernel_rfl
theorem par_c127 : cleanR (callX E2 2000 20 [strS (clT (3800 + 127))] St0) = some (parR 127) := by kernel_rfl
theorem par_c128 : cleanR (callX E2 2000 20 [strS (clT (3800 + 128))] St0) = some (parR 128) := by kernel_rfl
theorem par_c129 : cleanR (callX E2 2000 20 [strS (clT (3800 + 129))] St0) = some (parR 129) := by kernel_rfl
theorem par_c130 : cleanR (callX E2 2000 20 [strS (clT (3800 + 130))] St0) = some (parR 130) := by kernel_rfl
theorem par_c131 : cleanR (callX E2 2000 20 [strS (clT (3800 + 131))] St0) = some (parR 131) := by kernel_rfl
theorem par_c132 : cleanR (callX E2 2000 20 [strS (clT (3800 + 132))] St0) = some (parR 132) := by kernel_rfl
theorem par_c133 : cleanR (callX E2 2000 20 [strS (clT (3800 + 133))] St0) = some (parR 133) := by kernel_rfl
theorem par_c134 : cleanR (callX E2 2000 20 [strS (clT (3800 + 134))] St0) = some (parR 134) := by kernel_rfl
theorem par_c135 : cleanR (callX E2 2000 20 [strS (clT (3800 + 135))] St0) = some (parR 135) := by kernel_rfl
theorem par_c136 : cleanR (callX E2 2000 20 [strS (clT (3800 + 136))] St0) = some (parR 136) := by kernel_rfl
theorem par_c137 : cleanR (callX E2 2000 20 [strS (clT (3800 + 137))] St0) = some (parR 137) := by kernel_rfl
theorem par_c138 : cleanR (callX E2 2000 20 [strS (clT (3800 + 138))] St0) = some (parR 138) := by kernel_rfl
theorem par_c139 : cleanR (callX E2 2000 20 [strS (clT (3800 + 139))] St0) = some (parR 139) := by kernel_rfl
theorem par_c140 : cleanR (callX E2 2000 20 [strS (clT (3800 + 140))] St0) = some (parR 140) := by kernel_rfl
theorem par_c141 : cleanR (callX E2 2000 20 [strS (clT (3800 + 141))] St0) = some (parR 141) := by kernel_rfl
theorem par_c142 : cleanR (callX E2 2000 20 [strS (clT (3800 + 142))] St0) = some (parR 142) := by kernel_rfl
theorem par_c143 : cleanR (callX E2 2000 20 [strS (clT (3800 + 143))] St0) = some (parR 143) := by kernel_rfl
theorem par_c144 : cleanR (callX E2 2000 20 [strS (clT (3800 + 144))] St0) = some (parR 144) := by kernel_rfl
theorem par_c145 : cleanR (callX E2 2000 20 [strS (clT (3800 + 145))] St0) = some (parR 145) := by kernel_rfl
theorem par_c146 : cleanR (callX E2 2000 20 [strS (clT (3800 + 146))] St0) = some (parR 146) := by kernel_rfl
theorem par_c147 : cleanR (callX E2 2000 20 [strS (clT (3800 + 147))] St0) = some (parR 147) := by kernel_rfl
theorem par_c148 : cleanR (callX E2 2000 20 [strS (clT (3800 + 148))] St0) = some (parR 148) := by kernel_rfl
theorem par_c149 : cleanR (callX E2 2000 20 [strS (clT (3800 + 149))] St0) = some (parR 149) := by kernel_rfl
end Go.Ax
