/-
  What the parser answers of the texts of CompileLong.
-/
import Derived.Test.YtgnohckncmhodaaGreatDoorClZcN
set_option linter.unusedVariables false
set_option linter.unusedSimpArgs false
namespace Go.Ax
open Go.RowKit Go.Proofs
set_option linter.unusedVariables false
set_option linter.unusedSimpArgs false
set_option maxRecDepth 100000
theorem par_c200 : cleanR (callX E2 2000 20 [strS (clT (3800 + 200))] St0) = some (parR 200) := by kernel_rfl
theorem par_c201 : cleanR (callX E2 2000 20 [strS (clT (3800 + 201))] St0) = some (parR 201) := by kernel_rfl
theorem par_c202 : cleanR (callX E2 2000 20 [strS (clT (3800 + 202))] St0) = some (parR 202) := by kernel_rfl
theorem par_c203 : cleanR (callX E2 2000 20 [strS (clT (3800 + 203))] St0) = some (parR 203) := by kernel_rfl
theorem par_c204 : cleanR (callX E2 2000 20 [strS (clT (3800 + 204))] St0) = some (parR 204) := by kernel_rfl
theorem par_c205 : cleanR (callX E2 2000 20 [strS (clT (3800 + 205))] St0) = some (parR 205) := by kernel_rfl
theorem par_c206 : cleanR (callX E2 2000 20 [strS (clT (3800 + 206))] St0) = some (parR 206) := by kernel_rfl
theorem par_c207 : cleanR (callX E2 2000 20 [strS (clT (3800 + 207))] St0) = some (parR 207) := by kernel_rfl
theorem par_c208 : cleanR (callX E2 2000 20 [strS (clT (3800 + 208))] St0) = some (parR 208) := by kernel_rfl
theorem par_c209 : cleanR (callX E2 2000 20 [strS (clT (3800 + 209))] St0) = some (parR 209) := by kernel_rfl
theorem par_c210 : cleanR (callX E2 2000 20 [strS (clT (3800 + 210))] St0) = some (parR 210) := by kernel_rfl
theorem par_c211 : cleanR (callX E2 2000 20 [strS (clT (3800 + 211))] St0) = some (parR 211) := by kernel_rfl
theorem par_c212 : cleanR (callX E2 2000 20 [strS (clT (3800 + 212))] St0) = some (parR 212) := by kernel_rfl
theorem par_c213 : cleanR (callX E2 2000 20 [strS (clT (3800 + 213))] St0) = some (parR 213) := by kernel_rfl
theorem par_c214 : cleanR (callX E2 2000 20 [strS (clT (3800 + 214))] St0) = some (parR 214) := by kernel_rfl
theorem par_c215 : cleanR (callX E2 2000 20 [strS (clT (3800 + 215))] St0) = some (parR 215) := by kernel_rfl
theorem par_c216 : cleanR (callX E2 2000 20 [strS (clT (3800 + 216))] St0) = some (parR 216) := by kernel_rfl
theorem par_c217 : cleanR (callX E2 2000 20 [strS (clT (3800 + 217))] St0) = some (parR 217) := by kernel_rfl
theorem par_c218 : cleanR (callX E2 2000 20 [strS (clT (3800 + 218))] St0) = some (parR 218) := by kernel_rfl
theorem par_c219 : cleanR (callX E2 2000 20 [strS (clT (3800 + 219))] St0) = some (parR 219) := by kernel_rfl
theorem par_c220 : cleanR (callX E2 2000 20 [strS (clT (3800 + 220))] St0) = some (parR 220) := by kernel_rfl
theorem par_c221 : cleanR (callX E2 2000 20 [strS (clT (3800 + 221))] St0) = some (parR 221) := by kernel_rfl
theorem par_c222 : cleanR (callX E2 2000 20 [strS (clT (3800 + 222))] St0) = some (parR 222) := by kernel_rfl
theorem par_c223 : cleanR (callX E2 2000 20 [strS (clT (3800 + 223))] St0) = some (parR 223) := by kernel_rfl
theorem par_c224 : cleanR (callX E2 2000 20 [strS (clT (3800 + 224))] St0) = some (parR 224) := by kernel_rfl
end Go.Ax
