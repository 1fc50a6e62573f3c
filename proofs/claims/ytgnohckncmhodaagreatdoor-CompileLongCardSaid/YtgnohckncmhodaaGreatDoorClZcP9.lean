/-
  What the parser answers of the texts of CompileLong.
-/
import Derived.Test.YtgnohckncmhodaaGreatDoorClZcN
set_option linter.unusedVariables false
set_option linter.unusedSimpArgs false
namespace Go.Ax
open Go.RowKit Go.Proofs
set_option linter.unusedVariables false
set_option linter.unusedSimpArgs false
set_option maxRecDepth 100000
theorem par_c225 : cleanR (callX E2 2000 20 [strS (clT (3800 + 225))] St0) = some (parR 225) := by kernel_rfl
theorem par_c226 : cleanR (callX E2 2000 20 [strS (clT (3800 + 226))] St0) = some (parR 226) := by kernel_rfl
theorem par_c227 : cleanR (callX E2 2000 20 [strS (clT (3800 + 227))] St0) = some (parR 227) := by kernel_rfl
theorem par_c228 : cleanR (callX E2 2000 20 [strS (clT (3800 + 228))] St0) = some (parR 228) := by kernel_rfl
theorem par_c229 : cleanR (callX E2 2000 20 [strS (clT (3800 + 229))] St0) = some (parR 229) := by kernel_rfl
theorem par_c230 : cleanR (callX E2 2000 20 [strS (clT (3800 + 230))] St0) = some (parR 230) := by kernel_rfl
theorem par_c231 : cleanR (callX E2 2000 20 [strS (clT (3800 + 231))] St0) = some (parR 231) := by kernel_rfl
theorem par_c232 : cleanR (callX E2 2000 20 [strS (clT (3800 + 232))] St0) = some (parR 232) := by kernel_rfl
theorem par_c233 : cleanR (callX E2 2000 20 [strS (clT (3800 + 233))] St0) = some (parR 233) := by kernel_rfl
theorem par_c234 : cleanR (callX E2 2000 20 [strS (clT (3800 + 234))] St0) = some (parR 234) := by kernel_rfl
theorem par_c235 : cleanR (callX E2 2000 20 [strS (clT (3800 + 235))] St0) = some (parR 235) := by kernel_rfl
theorem par_c236 : cleanR (callX E2 2000 20 [strS (clT (3800 + 236))] St0) = some (parR 236) := by kernel_rfl
theorem par_c237 : cleanR (callX E2 2000 20 [strS (clT (3800 + 237))] St0) = some (parR 237) := by kernel_rfl
theorem par_c238 : cleanR (callX E2 2000 20 [strS (clT (3800 + 238))] St0) = some (parR 238) := by kernel_rfl
theorem par_c239 : cleanR (callX E2 2000 20 [strS (clT (3800 + 239))] St0) = some (parR 239) := by kernel_rfl
theorem par_c240 : cleanR (callX E2 2000 20 [strS (clT (3800 + 240))] St0) = some (parR 240) := by kernel_rfl
theorem par_c241 : cleanR (callX E2 2000 20 [strS (clT (3800 + 241))] St0) = some (parR 241) := by kernel_rfl
theorem par_c242 : cleanR (callX E2 2000 20 [strS (clT (3800 + 242))] St0) = some (parR 242) := by kernel_rfl
theorem par_c243 : cleanR (callX E2 2000 20 [strS (clT (3800 + 243))] St0) = some (parR 243) := by kernel_rfl
theorem par_c244 : cleanR (callX E2 2000 20 [strS (clT (3800 + 244))] St0) = some (parR 244) := by kernel_rfl
theorem par_c245 : cleanR (callX E2 2000 20 [strS (clT (3800 + 245))] St0) = some (parR 245) := by kernel_rfl
theorem par_c246 : cleanR (callX E2 2000 20 [strS (clT (3800 + 246))] St0) = some (parR 246) := by kernel_rfl
theorem par_c247 : cleanR (callX E2 2000 20 [strS (clT (3800 + 247))] St0) = some (parR 247) := by kernel_rfl
theorem par_c248 : cleanR (callX E2 2000 20 [strS (clT (3800 + 248))] St0) = some (parR 248) := by kernel_rfl
theorem par_c249 : cleanR (callX E2 2000 20 [strS (clT (3800 + 249))] St0) = some (parR 249) := by kernel_rfl
end Go.Ax
