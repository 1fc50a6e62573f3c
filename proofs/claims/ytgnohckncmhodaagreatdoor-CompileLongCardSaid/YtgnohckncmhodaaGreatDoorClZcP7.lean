/-
  What the parser answers of the texts of CompileLong.
-/
import Derived.Test.YtgnohckncmhodaaGreatDoorClZcN
set_option linter.unusedVariables false
set_option linter.unusedSimpArgs false
namespace Go.Ax
open Go.RowKit Go.Proofs
set_option linter.unusedVariables false
set_option linter.unusedSimpArgs false
set_option maxRecDepth 100000
theorem par_c175 : cleanR (callX E2 2000 20 [strS (clT (3800 + 175))] St0) = some (parR 175) := by kernel_rfl
theorem par_c176 : cleanR (callX E2 2000 20 [strS (clT (3800 + 176))] St0) = some (parR 176) := by kernel_rfl
theorem par_c177 : cleanR (callX E2 2000 20 [strS (clT (3800 + 177))] St0) = some (parR 177) := by kernel_rfl
theorem par_c178 : cleanR (callX E2 2000 20 [strS (clT (3800 + 178))] St0) = some (parR 178) := by kernel_rfl
theorem par_c179 : cleanR (callX E2 2000 20 [strS (clT (3800 + 179))] St0) = some (parR 179) := by kernel_rfl
theorem par_c180 : cleanR (callX E2 2000 20 [strS (clT (3800 + 180))] St0) = some (parR 180) := by kernel_rfl
theorem par_c181 : cleanR (callX E2 2000 20 [strS (clT (3800 + 181))] St0) = some (parR 181) := by kernel_rfl
theorem par_c182 : cleanR (callX E2 2000 20 [strS (clT (3800 + 182))] St0) = some (parR 182) := by kernel_rfl
theorem par_c183 : cleanR (callX E2 2000 20 [strS (clT (3800 + 183))] St0) = some (parR 183) := by kernel_rfl
theorem par_c184 : cleanR (callX E2 2000 20 [strS (clT (3800 + 184))] St0) = some (parR 184) := by kernel_rfl
theorem par_c185 : cleanR (callX E2 2000 20 [strS (clT (3800 + 185))] St0) = some (parR 185) := by kernel_rfl
theorem par_c186 : cleanR (callX E2 2000 20 [strS (clT (3800 + 186))] St0) = some (parR 186) := by kernel_rfl
theorem par_c187 : cleanR (callX E2 2000 20 [strS (clT (3800 + 187))] St0) = some (parR 187) := by kernel_rfl
theorem par_c188 : cleanR (callX E2 2000 20 [strS (clT (3800 + 188))] St0) = some (parR 188) := by kernel_rfl
theorem par_c189 : cleanR (callX E2 2000 20 [strS (clT (3800 + 189))] St0) = some (parR 189) := by kernel_rfl
theorem par_c190 : cleanR (callX E2 2000 20 [strS (clT (3800 + 190))] St0) = some (parR 190) := by kernel_rfl
theorem par_c191 : cleanR (callX E2 2000 20 [strS (clT (3800 + 191))] St0) = some (parR 191) := by kernel_rfl
theorem par_c192 : cleanR (callX E2 2000 20 [strS (clT (3800 + 192))] St0) = some (parR 192) := by kernel_rfl
theorem par_c193 : cleanR (callX E2 2000 20 [strS (clT (3800 + 193))] St0) = some (parR 193) := by kernel_rfl
theorem par_c194 : cleanR (callX E2 2000 20 [strS (clT (3800 + 194))] St0) = some (parR 194) := by kernel_rfl
theorem par_c195 : cleanR (callX E2 2000 20 [strS (clT (3800 + 195))] St0) = some (parR 195) := by kernel_rfl
theorem par_c196 : cleanR (callX E2 2000 20 [strS (clT (3800 + 196))] St0) = some (parR 196) := by kernel_rfl
theorem par_c197 : cleanR (callX E2 2000 20 [strS (clT (3800 + 197))] St0) = some (parR 197) := by kernel_rfl
theorem par_c198 : cleanR (callX E2 2000 20 [strS (clT (3800 + 198))] St0) = some (parR 198) := by kernel_rfl
theorem par_c199 : cleanR (callX E2 2000 20 [strS (clT (3800 + 199))] St0) = some (parR 199) := by kernel_rfl
end Go.Ax
