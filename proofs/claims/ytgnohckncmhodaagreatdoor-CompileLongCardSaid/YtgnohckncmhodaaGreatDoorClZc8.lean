/-
  Cases of CompileLong, reckoned by the kernel.
-/
import Derived.Test.YtgnohckncmhodaaGreatDoorClZcV
set_option linter.unusedVariables false
set_option linter.unusedSimpArgs false
namespace Go.Ax
open Go.RowKit Go.Proofs
set_option linter.unusedVariables false
set_option linter.unusedSimpArgs false
set_option maxRecDepth 100000
theorem cl_c200 : GoodCl (3800 + 200) := goodCl_of (by kernel_rfl)
theorem cl_c201 : GoodCl (3800 + 201) := goodCl_of (by kernel_rfl)
theorem cl_c202 : GoodCl (3800 + 202) := goodCl_of (by kernel_rfl)
theorem cl_c203 : GoodCl (3800 + 203) := goodCl_of (by kernel_rfl)
theorem cl_c204 : GoodCl (3800 + 204) := goodCl_of (by kernel_rfl)
theorem cl_c205 : GoodCl (3800 + 205) := goodCl_of (by kernel_rfl)
theorem cl_c206 : GoodCl (3800 + 206) := goodCl_of (by kernel_rfl)
theorem cl_c207 : GoodCl (3800 + 207) := goodCl_of (by kernel_rfl)
theorem cl_c208 : GoodCl (3800 + 208) := goodCl_of (by kernel_rfl)
theorem cl_c209 : GoodCl (3800 + 209) := goodCl_of (by kernel_rfl)
theorem cl_c210 : GoodCl (3800 + 210) := goodCl_of (by kernel_rfl)
theorem cl_c211 : GoodCl (3800 + 211) := goodCl_of (by kernel_rfl)
theorem cl_c212 : GoodCl (3800 + 212) := goodCl_of (by kernel_rfl)
theorem cl_c213 : GoodCl (3800 + 213) := goodCl_of (by kernel_rfl)
theorem cl_c214 : GoodCl (3800 + 214) := goodCl_of (by kernel_rfl)
theorem cl_c215 : GoodCl (3800 + 215) := goodCl_of (by kernel_rfl)
theorem cl_c216 : GoodCl (3800 + 216) := goodCl_of (by kernel_rfl)
theorem cl_c217 : GoodCl (3800 + 217) := goodCl_of (by kernel_rfl)
theorem cl_c218 : GoodCl (3800 + 218) := goodCl_of (by kernel_rfl)
theorem cl_c219 : GoodCl (3800 + 219) := goodCl_of (by kernel_rfl)
theorem cl_c220 : GoodCl (3800 + 220) := goodCl_of (by kernel_rfl)
theorem cl_c221 : GoodCl (3800 + 221) := goodCl_of (by kernel_rfl)
theorem cl_c222 : GoodCl (3800 + 222) := goodCl_of (by kernel_rfl)
theorem cl_c223 : GoodCl (3800 + 223) := goodCl_of (by kernel_rfl)
theorem cl_c224 : GoodCl (3800 + 224) := goodCl_of (by kernel_rfl)
end Go.Ax
