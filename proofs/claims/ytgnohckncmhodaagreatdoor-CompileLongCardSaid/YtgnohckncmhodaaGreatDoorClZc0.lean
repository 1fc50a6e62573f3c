/-
  Cases of CompileLong, reckoned by the kernel.
-/
import Derived.Test.YtgnohckncmhodaaGreatDoorClZcV
set_option linter.unusedVariables false
set_option linter.unusedSimpArgs false
namespace Go.Ax
open Go.RowKit Go.Proofs
set_option linter.unusedVariables false
set_option linter.unusedSimpArgs false
set_option maxRecDepth 100000
theorem cl_c0 : GoodCl (3800 + 0) := goodCl_of (by kernel_rfl)
theorem cl_c1 : GoodCl (3800 + 1) := goodCl_of (by kernel_rfl)
theorem cl_c2 : GoodCl (3800 + 2) := goodCl_of (by kernel_rfl)
theorem cl_c3 : GoodCl (3800 + 3) := goodCl_of (by kernel_rfl)
theorem cl_c4 : GoodCl (3800 + 4) := goodCl_of (by kernel_rfl)
theorem cl_c5 : GoodCl (3800 + 5) := goodCl_of (by kernel_rfl)
theorem cl_c6 : GoodCl (3800 + 6) := goodCl_of (by kernel_rfl)
theorem cl_c7 : GoodCl (3800 + 7) := goodCl_of (by kernel_rfl)
theorem cl_c8 : GoodCl (3800 + 8) := goodCl_of (by kernel_rfl)
theorem cl_c9 : GoodCl (3800 + 9) := goodCl_of (by kernel_rfl)
theorem cl_c10 : GoodCl (3800 + 10) := goodCl_of (by kernel_rfl)
theorem cl_c11 : GoodCl (3800 + 11) := goodCl_of (by kernel_rfl)
theorem cl_c12 : GoodCl (3800 + 12) := goodCl_of (by kernel_rfl)
theorem cl_c13 : GoodCl (3800 + 13) := goodCl_of (by kernel_rfl)
theorem cl_c14 : GoodCl (3800 + 14) := goodCl_of (by kernel_rfl)
theorem cl_c15 : GoodCl (3800 + 15) := goodCl_of (by kernel_rfl)
theorem cl_c16 : GoodCl (3800 + 16) := goodCl_of (by kernel_rfl)
theorem cl_c17 : GoodCl (3800 + 17) := goodCl_of (by kernel_rfl)
theorem cl_c18 : GoodCl (3800 + 18) := goodCl_of (by kernel_rfl)
theorem cl_c19 : GoodCl (3800 + 19) := goodCl_of (by kernel_rfl)
theorem cl_c20 : GoodCl (3800 + 20) := goodCl_of (by kernel_rfl)
theorem cl_c21 : GoodCl (3800 + 21) := goodCl_of (by kernel_rfl)
theorem cl_c22 : GoodCl (3800 + 22) := goodCl_of (by kernel_rfl)
theorem cl_c23 : GoodCl (3800 + 23) := goodCl_of (by kernel_rfl)
theorem cl_c24 : GoodCl (3800 + 24) := goodCl_of (by kernel_rfl)
end Go.Ax
