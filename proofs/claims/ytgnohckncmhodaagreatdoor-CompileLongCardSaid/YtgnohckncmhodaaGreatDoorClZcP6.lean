/-
  What the parser answers of the texts of CompileLong.
-/
import Derived.Test.YtgnohckncmhodaaGreatDoorClZcN
set_option linter.unusedVariables false
set_option linter.unusedSimpArgs false
namespace Go.Ax
open Go.RowKit Go.Proofs
set_option linter.unusedVariables false
set_option linter.unusedSimpArgs false
set_option maxRecDepth 100000
theorem par_c150 : cleanR (callX E2 2000 20 [strS (clT (3800 + 150))] St0) = some (parR 150) := by kernel_rfl
theorem par_c151 : cleanR (callX E2 2000 20 [strS (clT (3800 + 151))] St0) = some (parR 151) := by kernel_rfl
theorem par_c152 : cleanR (callX E2 2000 20 [strS (clT (3800 + 152))] St0) = some (parR 152) := by kernel_rfl
theorem par_c153 : cleanR (callX E2 2000 20 [strS (clT (3800 + 153))] St0) = some (parR 153) := by kernel_rfl
theorem par_c154 : cleanR (callX E2 2000 20 [strS (clT (3800 + 154))] St0) = some (parR 154) := by kernel_rfl
theorem par_c155 : cleanR (callX E2 2000 20 [strS (clT (3800 + 155))] St0) = some (parR 155) := by kernel_rfl
theorem par_c156 : cleanR (callX E2 2000 20 [strS (clT (3800 + 156))] St0) = some (parR 156) := by kernel_rfl
theorem par_c157 : cleanR (callX E2 2000 20 [strS (clT (3800 + 157))] St0) = some (parR 157) := by kernel_rfl
theorem par_c158 : cleanR (callX E2 2000 20 [strS (clT (3800 + 158))] St0) = some (parR 158) := by kernel_rfl
theorem par_c159 : cleanR (callX E2 2000 20 [strS (clT (3800 + 159))] St0) = some (parR 159) := by kernel_rfl
theorem par_c160 : cleanR (callX E2 2000 20 [strS (clT (3800 + 160))] St0) = some (parR 160) := by kernel_rfl
theorem par_c161 : cleanR (callX E2 2000 20 [strS (clT (3800 + 161))] St0) = some (parR 161) := by kernel_rfl
theorem par_c162 : cleanR (callX E2 2000 20 [strS (clT (3800 + 162))] St0) = some (parR 162) := by kernel_rfl
theorem par_c163 : cleanR (callX E2 2000 20 [strS (clT (3800 + 163))] St0) = some (parR 163) := by kernel_rfl
theorem par_c164 : cleanR (callX E2 2000 20 [strS (clT (3800 + 164))] St0) = some (parR 164) := by kernel_rfl
theorem par_c165 : cleanR (callX E2 2000 20 [strS (clT (3800 + 165))] St0) = some (parR 165) := by kernel_rfl
theorem par_c166 : cleanR (callX E2 2000 20 [strS (clT (3800 + 166))] St0) = some (parR 166) := by kernel_rfl
theorem par_c167 : cleanR (callX E2 2000 20 [strS (clT (3800 + 167))] St0) = some (parR 167) := by kernel_rfl
theorem par_c168 : cleanR (callX E2 2000 20 [strS (clT (3800 + 168))] St0) = some (parR 168) := by kernel_rfl
theorem par_c169 : cleanR (callX E2 2000 20 [strS (clT (3800 + 169))] St0) = some (parR 169) := by kernel_rfl
theorem par_c170 : cleanR (callX E2 2000 20 [strS (clT (3800 + 170))] St0) = some (parR 170) := by kernel_rfl
theorem par_c171 : cleanR (callX E2 2000 20 [strS (clT (3800 + 171))] St0) = some (parR 171) := by kernel_rfl
theorem par_c172 : cleanR (callX E2 2000 20 [strS (clT (3800 + 172))] St0) = some (parR 172) := by kernel_rfl
theorem par_c173 : cleanR (callX E2 2000 20 [strS (clT (3800 + 173))] St0) = some (parR 173) := by kernel_rfl
theorem par_c174 : cleanR (callX E2 2000 20 [strS (clT (3800 + 174))] St0) = some (parR 174) := by kernel_rfl
end Go.Ax
