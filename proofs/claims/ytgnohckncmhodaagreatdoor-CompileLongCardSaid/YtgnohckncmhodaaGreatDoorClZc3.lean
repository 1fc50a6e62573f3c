/-
  Cases of CompileLong, reckoned by the kernel.
-/
import Derived.Test.YtgnohckncmhodaaGreatDoorClZcV
set_option linter.unusedVariables false
set_option linter.unusedSimpArgs false
namespace Go.Ax
open Go.RowKit Go.Proofs
set_option linter.unusedVariables false
set_option linter.unusedSimpArgs false
set_option maxRecDepth 100000
theorem cl_c75 : GoodCl (3800 + 75) := goodCl_of (by kernel_rfl)
theorem cl_c76 : GoodCl (3800 + 76) := goodCl_of (by kernel_rfl)
theorem cl_c77 : GoodCl (3800 + 77) := goodCl_of (by kernel_rfl)
theorem cl_c78 : GoodCl (3800 + 78) := goodCl_of (by kernel_rfl)
theorem cl_c79 : GoodCl (3800 + 79) := goodCl_of (by kernel_rfl)
theorem cl_c80 : GoodCl (3800 + 80) := goodCl_of (by kernel_rfl)
theorem cl_c81 : GoodCl (3800 + 81) := goodCl_of (by kernel_rfl)
theorem cl_c82 : GoodCl (3800 + 82) := goodCl_of (by kernel_rfl)
theorem cl_c83 : GoodCl (3800 + 83) := goodCl_of (by kernel_rfl)
theorem cl_c84 : GoodCl (3800 + 84) := goodCl_of (by kernel_rfl)
theorem cl_c85 : GoodCl (3800 + 85) := goodCl_of (by kernel_rfl)
theorem cl_c86 : GoodCl (3800 + 86) := goodCl_of (by kernel_rfl)
theorem cl_c87 : GoodCl (3800 + 87) := goodCl_of (by kernel_rfl)
theorem cl_c88 : GoodCl (3800 + 88) := goodCl_of (by kernel_rfl)
theorem cl_c89 : GoodCl (3800 + 89) := goodCl_of (by kernel_rfl)
theorem cl_c90 : GoodCl (3800 + 90) := goodCl_of (by kernel_rfl)
theorem cl_c91 : GoodCl (3800 + 91) := goodCl_of (by kernel_rfl)
theorem cl_c92 : GoodCl (3800 + 92) := goodCl_of (by kernel_rfl)
theorem cl_c93 : GoodCl (3800 + 93) := goodCl_of (by kernel_rfl)
theorem cl_c94 : GoodCl (3800 + 94) := goodCl_of (by kernel_rfl)
theorem cl_c95 : GoodCl (3800 + 95) := goodCl_of (by kernel_rfl)
theorem cl_c96 : GoodCl (3800 + 96) := goodCl_of (by kernel_rfl)
theorem cl_c97 : GoodCl (3800 + 97) := goodCl_of (by kernel_rfl)
theorem cl_c98 : GoodCl (3800 + 98) := goodCl_of (by kernel_rfl)
theorem cl_c99 : GoodCl (3800 + 99) := goodCl_of (by kernel_rfl)
end Go.Ax
