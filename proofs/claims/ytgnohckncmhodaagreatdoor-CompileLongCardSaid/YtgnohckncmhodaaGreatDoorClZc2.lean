/-
  Cases of CompileLong, reckoned by the kernel.
-/
import Derived.Test.YtgnohckncmhodaaGreatDoorClZcV
set_option linter.unusedVariables false
set_option linter.unusedSimpArgs false
namespace Go.Ax
open Go.RowKit Go.Proofs
set_option linter.unusedVariables false
set_option linter.unusedSimpArgs false
set_option maxRecDepth 100000
theorem cl_c50 : GoodCl (3800 + 50) := goodCl_of (by kernel_rfl)
theorem cl_c51 : GoodCl (3800 + 51) := goodCl_of (by kernel_rfl)
theorem cl_c52 : GoodCl (3800 + 52) := goodCl_of (by kernel_rfl)
theorem cl_c53 : GoodCl (3800 + 53) := goodCl_of (by kernel_rfl)
theorem cl_c54 : GoodCl (3800 + 54) := goodCl_of (by kernel_rfl)
theorem cl_c55 : GoodCl (3800 + 55) := goodCl_of (by kernel_rfl)
theorem cl_c56 : GoodCl (3800 + 56) := goodCl_of (by kernel_rfl)
theorem cl_c57 : GoodCl (3800 + 57) := goodCl_of (by kernel_rfl)
theorem cl_c58 : GoodCl (3800 + 58) := goodCl_of (by kernel_rfl)
theorem cl_c59 : GoodCl (3800 + 59) := goodCl_of (by kernel_rfl)
theorem cl_c60 : GoodCl (3800 + 60) := goodCl_of (by kernel_rfl)
theorem cl_c61 : GoodCl (3800 + 61) := goodCl_of (by kernel_rfl)
theorem cl_c62 : GoodCl (3800 + 62) := goodCl_of (by kernel_rfl)
theorem cl_c63 : GoodCl (3800 + 63) := goodCl_of (by kernel_rfl)
theorem cl_c64 : GoodCl (3800 + 64) := goodCl_of (by kernel_rfl)
theorem cl_c65 : GoodCl (3800 + 65) := goodCl_of (by kernel_rfl)
theorem cl_c66 : GoodCl (3800 + 66) := goodCl_of (by kernel_rfl)
theorem cl_c67 : GoodCl (3800 + 67) := goodCl_of (by kernel_rfl)
theorem cl_c68 : GoodCl (3800 + 68) := goodCl_of (by kernel_rfl)
theorem cl_c69 : GoodCl (3800 + 69) := goodCl_of (by kernel_rfl)
theorem cl_c70 : GoodCl (3800 + 70) := goodCl_of (by kernel_rfl)
theorem cl_c71 : GoodCl (3800 + 71) := goodCl_of (by kernel_rfl)
theorem cl_c72 : GoodCl (3800 + 72) := goodCl_of (by kernel_rfl)
theorem cl_c73 : GoodCl (3800 + 73) := goodCl_of (by kernel_rfl)
theorem cl_c74 : GoodCl (3800 + 74) := goodCl_of (by kernel_rfl)
end Go.Ax
