/-
  Cases of CompileLong, reckoned by the kernel.
-/
import Derived.Test.YtgnohckncmhodaaGreatDoorClZcV
set_option linter.unusedVariables false
set_option linter.unusedSimpArgs false
namespace Go.Ax
open Go.RowKit Go.Proofs
set_option linter.unusedVariables false
set_option linter.unusedSimpArgs false
set_option maxRecDepth 100000
theorem cl_c25 : GoodCl (3800 + 25) := goodCl_of (by kernel_rfl)
theorem cl_c26 : GoodCl (3800 + 26) := goodCl_of (by kernel_rfl)
theorem cl_c27 : GoodCl (3800 + 27) := goodCl_of (by kernel_rfl)
theorem cl_c28 : GoodCl (3800 + 28) := goodCl_of (by kernel_rfl)
theorem cl_c29 : GoodCl (3800 + 29) := goodCl_of (by kernel_rfl)
theorem cl_c30 : GoodCl (3800 + 30) := goodCl_of (by kernel_rfl)
theorem cl_c31 : GoodCl (3800 + 31) := goodCl_of (by kernel_rfl)
theorem cl_c32 : GoodCl (3800 + 32) := goodCl_of (by kernel_rfl)
theorem cl_c33 : GoodCl (3800 + 33) := goodCl_of (by kernel_rfl)
theorem cl_c34 : GoodCl (3800 + 34) := goodCl_of (by kernel_rfl)
theorem cl_c35 : GoodCl (3800 + 35) := goodCl_of (by kernel_rfl)
theorem cl_c36 : GoodCl (3800 + 36) := goodCl_of (by kernel_rfl)
theorem cl_c37 : GoodCl (3800 + 37) := goodCl_of (by kernel_rfl)
theorem cl_c38 : GoodCl (3800 + 38) := goodCl_of (by kernel_rfl)
theorem cl_c39 : GoodCl (3800 + 39) := goodCl_of (by kernel_rfl)
theorem cl_c40 : GoodCl (3800 + 40) := goodCl_of (by kernel_rfl)
theorem cl_c41 : GoodCl (3800 + 41) := goodCl_of (by kernel_rfl)
theorem cl_c42 : GoodCl (3800 + 42) := goodCl_of (by kernel_rfl)
theorem cl_c43 : GoodCl (3800 + 43) := goodCl_of (by kernel_rfl)
theorem cl_c44 : GoodCl (3800 + 44) := goodCl_of (by kernel_rfl)
theorem cl_c45 : GoodCl (3800 + 45) := goodCl_of (by kernel_rfl)
theorem cl_c46 : GoodCl (3800 + 46) := goodCl_of (by kernel_rfl)
theorem cl_c47 : GoodCl (3800 + 47) := goodCl_of (by kernel_rfl)
theorem cl_c48 : GoodCl (3800 + 48) := goodCl_of (by kernel_rfl)
theorem cl_c49 : GoodCl (3800 + 49) := goodCl_of (by kernel_rfl)
end Go.Ax
