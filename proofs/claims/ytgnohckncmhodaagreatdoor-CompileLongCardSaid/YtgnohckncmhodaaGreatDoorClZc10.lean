/-
  Cases of CompileLong, reckoned by the kernel.
-/
import Derived.Test.YtgnohckncmhodaaGreatDoorClZcV
set_option linter.unusedVariables false
set_option linter.unusedSimpArgs false
namespace Go.Ax
open Go.RowKit Go.Proofs
set_option linter.unusedVariables false
set_option linter.unusedSimpArgs false
set_option maxRecDepth 100000
theorem cl_c250 : GoodCl (3800 + 250) := goodCl_of (by kernel_rfl)
theorem cl_c251 : GoodCl (3800 + 251) := goodCl_of (by kernel_rfl)
theorem cl_c252 : GoodCl (3800 + 252) := goodCl_of (by kernel_rfl)
theorem cl_c253 : GoodCl (3800 + 253) := goodCl_of (by kernel_rfl)
theorem cl_c254 : GoodCl (3800 + 254) := goodCl_of (by kernel_rfl)
theorem cl_c255 : GoodCl (3800 + 255) := goodCl_of (by kernel_rfl)
theorem cl_c256 : GoodCl (3800 + 256) := goodCl_of (by kernel_rfl)
theorem cl_c257 : GoodCl (3800 + 257) := goodCl_of (by kernel_rfl)
theorem cl_c258 : GoodCl (3800 + 258) := goodCl_of (by kernel_rfl)
theorem cl_c259 : GoodCl (3800 + 259) := goodCl_of (by kernel_rfl)
theorem cl_c260 : GoodCl (3800 + 260) := goodCl_of (by kernel_rfl)
theorem cl_c261 : GoodCl (3800 + 261) := goodCl_of (by kernel_rfl)
theorem cl_c262 : GoodCl (3800 + 262) := goodCl_of (by kernel_rfl)
theorem cl_c263 : GoodCl (3800 + 263) := goodCl_of (by kernel_rfl)
theorem cl_c264 : GoodCl (3800 + 264) := goodCl_of (by kernel_rfl)
theorem cl_c265 : GoodCl (3800 + 265) := goodCl_of (by kernel_rfl)
theorem cl_c266 : GoodCl (3800 + 266) := goodCl_of (by kernel_rfl)
theorem cl_c267 : GoodCl (3800 + 267) := goodCl_of (by kernel_rfl)
theorem cl_c268 : GoodCl (3800 + 268) := goodCl_of (by kernel_rfl)
theorem cl_c269 : GoodCl (3800 + 269) := goodCl_of (by kernel_rfl)
theorem cl_c270 : GoodCl (3800 + 270) := goodCl_of (by kernel_rfl)
theorem cl_c271 : GoodCl (3800 + 271) := goodCl_of (by kernel_rfl)
theorem cl_c272 : GoodCl (3800 + 272) := goodCl_of (by kernel_rfl)
theorem cl_c273 : GoodCl (3800 + 273) := goodCl_of (by kernel_rfl)
theorem cl_c274 : GoodCl (3800 + 274) := goodCl_of (by kernel_rfl)
end Go.Ax
