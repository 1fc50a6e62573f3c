/-
  Cases of CompileLong, reckoned by the kernel.
-/
import Derived.Test.YtgnohckncmhodaaGreatDoorClZcV
set_option linter.unusedVariables false
set_option linter.unusedSimpArgs false
namespace Go.Ax
open Go.RowKit Go.Proofs
set_option linter.unusedVariables false
set_option linter.unusedSimpArgs false
set_option maxRecDepth 100000
theorem cl_c100 : GoodCl (3800 + 100) := goodCl_of (by kernel_rfl)
theorem cl_c101 : GoodCl (3800 + 101) := goodCl_of (by kernel_rfl)
theorem cl_c102 : GoodCl (3800 + 102) := goodCl_of (by kernel_rfl)
theorem cl_c103 : GoodCl (3800 + 103) := goodCl_of (by kernel_rfl)
theorem cl_c104 : GoodCl (3800 + 104) := goodCl_of (by kernel_rfl)
theorem cl_c105 : GoodCl (3800 + 105) := goodCl_of (by kernel_rfl)
theorem cl_c106 : GoodCl (3800 + 106) := goodCl_of (by kernel_rfl)
theorem cl_c107 : GoodCl (3800 + 107) := goodCl_of (by kernel_rfl)
theorem cl_c108 : GoodCl (3800 + 108) := goodCl_of (by kernel_rfl)
theorem cl_c109 : GoodCl (3800 + 109) := goodCl_of (by kernel_rfl)
theorem cl_c110 : GoodCl (3800 + 110) := goodCl_of (by kernel_rfl)
theorem cl_c111 : GoodCl (3800 + 111) := goodCl_of (by kernel_rfl)
theorem cl_c112 : GoodCl (3800 + 112) := goodCl_of (by kernel_rfl)
theorem cl_c113 : GoodCl (3800 + 113) := goodCl_of (by kernel_rfl)
theorem cl_c114 : GoodCl (3800 + 114) := goodCl_of (by kernel_rfl)
theorem cl_c115 : GoodCl (3800 + 115) := goodCl_of (by kernel_rfl)
theorem cl_c116 : GoodCl (3800 + 116) := goodCl_of (by kernel_rfl)
theorem cl_c117 : GoodCl (3800 + 117) := goodCl_of (by kernel_rfl)
theorem cl_c118 : GoodCl (3800 + 118) := goodCl_of (by kernel_rfl)
theorem cl_c119 : GoodCl (3800 + 119) := goodCl_of (by kernel_rfl)
theorem cl_c120 : GoodCl (3800 + 120) := goodCl_of (by kernel_rfl)
theorem cl_c121 : GoodCl (3800 + 121) := goodCl_of (by kernel_rfl)
theorem cl_c122 : GoodCl (3800 + 122) := goodCl_of (by kernel_rfl)
theorem cl_c123 : GoodCl (3800 + 123) := goodCl_of (by kernel_rfl)
theorem cl_c124 : GoodCl (3800 + 124) := goodCl_of (by kernel_rfl)
end Go.Ax
