/-
  What the parser answers of the texts of CompileLong.
-/
import Derived.Test.YtgnohckncmhodaaGreatDoorClZcN
set_option linter.unusedVariables false
set_option linter.unusedSimpArgs false
namespace Go.Ax
open Go.RowKit Go.Proofs
set_option linter.unusedVariables false
set_option linter.unusedSimpArgs false
set_option maxRecDepth 100000
theorem par_c250 : cleanR (callX E2 2000 20 [strS (clT (3800 + 250))] St0) = some (parR 250) := by kernel_rfl
theorem par_c251 : cleanR (callX E2 2000 20 [strS (clT (3800 + 251))] St0) = some (parR 251) := by kernel_rfl
theorem par_c252 : cleanR (callX E2 2000 20 [strS (clT (3800 + 252))] St0) = some (parR 252) := by kernel_rfl
theorem par_c253 : cleanR (callX E2 2000 20 [strS (clT (3800 + 253))] St0) = some (parR 253) := by kernel_rfl
theorem par_c254 : cleanR (callX E2 2000 20 [strS (clT (3800 + 254))] St0) = some (parR 254) := by kernel_rfl
theorem par_c255 : cleanR (callX E2 2000 20 [strS (clT (3800 + 255))] St0) = some (parR 255) := by kernel_rfl
theorem par_c256 : cleanR (callX E2 2000 20 [strS (clT (3800 + 256))] St0) = some (parR 256) := by kernel_rfl
theorem par_c257 : cleanR (callX E2 2000 20 [strS (clT (3800 + 257))] St0) = some (parR 257) := by kernel_rfl
theorem par_c258 : cleanR (callX E2 2000 20 [strS (clT (3800 + 258))] St0) = some (parR 258) := by kernel_rfl
theorem par_c259 : cleanR (callX E2 2000 20 [strS (clT (3800 + 259))] St0) = some (parR 259) := by kernel_rfl
theorem par_c260 : cleanR (callX E2 2000 20 [strS (clT (3800 + 260))] St0) = some (parR 260) := by kernel_rfl
theorem par_c261 : cleanR (callX E2 2000 20 [strS (clT (3800 + 261))] St0) = some (parR 261) := by kernel_rfl
theorem par_c262 : cleanR (callX E2 2000 20 [strS (clT (3800 + 262))] St0) = some (parR 262) := by kernel_rfl
theorem par_c263 : cleanR (callX E2 2000 20 [strS (clT (3800 + 263))] St0) = some (parR 263) := by kernel_rfl
theorem par_c264 : cleanR (callX E2 2000 20 [strS (clT (3800 + 264))] St0) = some (parR 264) := by kernel_rfl
theorem par_c265 : cleanR (callX E2 2000 20 [strS (clT (3800 + 265))] St0) = some (parR 265) := by kernel_rfl
theorem par_c266 : cleanR (callX E2 2000 20 [strS (clT (3800 + 266))] St0) = some (parR 266) := by kernel_rfl
theorem par_c267 : cleanR (callX E2 2000 20 [strS (clT (3800 + 267))] St0) = some (parR 267) := by kernel_rfl
theorem par_c268 : cleanR (callX E2 2000 20 [strS (clT (3800 + 268))] St0) = some (parR 268) := by kernel_rfl
theorem par_c269 : cleanR (callX E2 2000 20 [strS (clT (3800 + 269))] St0) = some (parR 269) := by kernel_rfl
theorem par_c270 : cleanR (callX E2 2000 20 [strS (clT (3800 + 270))] St0) = some (parR 270) := by kernel_rfl
theorem par_c271 : cleanR (callX E2 2000 20 [strS (clT (3800 + 271))] St0) = some (parR 271) := by kernel_rfl
theorem par_c272 : cleanR (callX E2 2000 20 [strS (clT (3800 + 272))] St0) = some (parR 272) := by kernel_rfl
theorem par_c273 : cleanR (callX E2 2000 20 [strS (clT (3800 + 273))] St0) = some (parR 273) := by kernel_rfl
theorem par_c274 : cleanR (callX E2 2000 20 [strS (clT (3800 + 274))] St0) = some (parR 274) := by kernel_rfl
end Go.Ax
