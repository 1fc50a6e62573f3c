/-
  What the parser answers of the texts of CompileLong.
-/
import Derived.Test.YtgnohckncmhodaaGreatDoorClZcN
set_option linter.unusedVariables false
set_option linter.unusedSimpArgs false
namespace Go.Ax
open Go.RowKit Go.Proofs
set_option linter.unusedVariables false
set_option linter.unusedSimpArgs false
set_option maxRecDepth 100000
theorem par_c275 : cleanR (callX E2 2000 20 [strS (clT (3800 + 275))] St0) = some (parR 275) := by kernel_rfl
theorem par_c276 : cleanR (callX E2 2000 20 [strS (clT (3800 + 276))] St0) = some (parR 276) := by kernel_rfl
theorem par_c277 : cleanR (callX E2 2000 20 [strS (clT (3800 + 277))] St0) = some (parR 277) := by kernel_rfl
theorem par_c278 : cleanR (callX E2 2000 20 [strS (clT (3800 + 278))] St0) = some (parR 278) := by kernel_rfl
theorem par_c279 : cleanR (callX E2 2000 20 [strS (clT (3800 + 279))] St0) = some (parR 279) := by kernel_rfl
theorem par_c280 : cleanR (callX E2 2000 20 [strS (clT (3800 + 280))] St0) = some (parR 280) := by kernel_rfl
theorem par_c281 : cleanR (callX E2 2000 20 [strS (clT (3800 + 281))] St0) = some (parR 281) := by kernel_rfl
theorem par_c282 : cleanR (callX E2 2000 20 [strS (clT (3800 + 282))] St0) = some (parR 282) := by kernel_rfl
theorem par_c283 : cleanR (callX E2 2000 20 [strS (clT (3800 + 283))] St0) = some (parR 283) := by kernel_rfl
theorem par_c284 : cleanR (callX E2 2000 20 [strS (clT (3800 + 284))] St0) = some (parR 284) := by kernel_rfl
theorem par_c285 : cleanR (callX E2 2000 20 [strS (clT (3800 + 285))] St0) = some (parR 285) := by kernel_rfl
theorem par_c286 : cleanR (callX E2 2000 20 [strS (clT (3800 + 286))] St0) = some (parR 286) := by kernel_rfl
theorem par_c287 : cleanR (callX E2 2000 20 [strS (clT (3800 + 287))] St0) = some (parR 287) := by kernel_rfl
theorem par_c288 : cleanR (callX E2 2000 20 [strS (clT (3800 + 288))] St0) = some (parR 288) := by kernel_rfl
theorem par_c289 : cleanR (callX E2 2000 20 [strS (clT (3800 + 289))] St0) = some (parR 289) := by kernel_rfl
theorem par_c290 : cleanR (callX E2 2000 20 [strS (clT (3800 + 290))] St0) = some (parR 290) := by kernel_rfl
theorem par_c291 : cleanR (callX E2 2000 20 [strS (clT (3800 + 291))] St0) = some (parR 291) := by kernel_rfl
theorem par_c292 : cleanR (callX E2 2000 20 [strS (clT (3800 + 292))] St0) = some (parR 292) := by kernel_rfl
theorem par_c293 : cleanR (callX E2 2000 20 [strS (clT (3800 + 293))] St0) = some (parR 293) := by kernel_rfl
theorem par_c294 : cleanR (callX E2 2000 20 [strS (clT (3800 + 294))] St0) = some (parR 294) := by kernel_rfl
theorem par_c295 : cleanR (callX E2 2000 20 [strS (clT (3800 + 295))] St0) = some (parR 295) := by kernel_rfl
theorem par_c296 : cleanR (callX E2 2000 20 [strS (clT (3800 + 296))] St0) = some (parR 296) := by kernel_rfl
theorem par_c297 : cleanR (callX E2 2000 20 [strS (clT (3800 + 297))] St0) = some (parR 297) := by kernel_rfl
theorem par_c298 : cleanR (callX E2 2000 20 [strS (clT (3800 + 298))] St0) = some (parR 298) := by kernel_rfl
theorem par_c299 : cleanR (callX E2 2000 20 [strS (clT (3800 + 299))] St0) = some (parR 299) := by kernel_rfl
end Go.Ax
