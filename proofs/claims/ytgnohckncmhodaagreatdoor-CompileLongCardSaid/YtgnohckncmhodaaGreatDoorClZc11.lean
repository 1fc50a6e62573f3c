/-
  Cases of CompileLong, reckoned by the kernel.
-/
import Derived.Test.YtgnohckncmhodaaGreatDoorClZcV
set_option linter.unusedVariables false
set_option linter.unusedSimpArgs false
namespace Go.Ax
open Go.RowKit Go.Proofs
set_option linter.unusedVariables false
set_option linter.unusedSimpArgs false
set_option maxRecDepth 100000
theorem cl_c275 : GoodCl (3800 + 275) := goodCl_of (by kernel_rfl)
theorem cl_c276 : GoodCl (3800 + 276) := goodCl_of (by kernel_rfl)
theorem cl_c277 : GoodCl (3800 + 277) := goodCl_of (by kernel_rfl)
theorem cl_c278 : GoodCl (3800 + 278) := goodCl_of (by kernel_rfl)
theorem cl_c279 : GoodCl (3800 + 279) := goodCl_of (by kernel_rfl)
theorem cl_c280 : GoodCl (3800 + 280) := goodCl_of (by kernel_rfl)
theorem cl_c281 : GoodCl (3800 + 281) := goodCl_of (by kernel_rfl)
theorem cl_c282 : GoodCl (3800 + 282) := goodCl_of (by kernel_rfl)
theorem cl_c283 : GoodCl (3800 + 283) := goodCl_of (by kernel_rfl)
theorem cl_c284 : GoodCl (3800 + 284) := goodCl_of (by kernel_rfl)
theorem cl_c285 : GoodCl (3800 + 285) := goodCl_of (by kernel_rfl)
theorem cl_c286 : GoodCl (3800 + 286) := goodCl_of (by kernel_rfl)
theorem cl_c287 : GoodCl (3800 + 287) := goodCl_of (by kernel_rfl)
theorem cl_c288 : GoodCl (3800 + 288) := goodCl_of (by kernel_rfl)
theorem cl_c289 : GoodCl (3800 + 289) := goodCl_of (by kernel_rfl)
theorem cl_c290 : GoodCl (3800 + 290) := goodCl_of (by kernel_rfl)
theorem cl_c291 : GoodCl (3800 + 291) := goodCl_of (by kernel_rfl)
theorem cl_c292 : GoodCl (3800 + 292) := goodCl_of (by kernel_rfl)
theorem cl_c293 : GoodCl (3800 + 293) := goodCl_of (by kernel_rfl)
theorem cl_c294 : GoodCl (3800 + 294) := goodCl_of (by kernel_rfl)
theorem cl_c295 : GoodCl (3800 + 295) := goodCl_of (by kernel_rfl)
theorem cl_c296 : GoodCl (3800 + 296) := goodCl_of (by kernel_rfl)
theorem cl_c297 : GoodCl (3800 + 297) := goodCl_of (by kernel_rfl)
theorem cl_c298 : GoodCl (3800 + 298) := goodCl_of (by kernel_rfl)
theorem cl_c299 : GoodCl (3800 + 299) := goodCl_of (by kernel_rfl)
end Go.Ax
