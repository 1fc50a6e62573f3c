/-
  Cases of CompileLong, reckoned by the kernel.
-/
import Derived.Test.YtgnohckncmhodaaGreatDoorClZcV
set_option linter.unusedVariables false
set_option linter.unusedSimpArgs false
namespace Go.Ax
open Go.RowKit Go.Proofs
set_option linter.unusedVariables false
set_option linter.unusedSimpArgs false
set_option maxRecDepth 100000
theorem cl_c125 : GoodCl (3800 + 125) := goodCl_of (by kernel_rfl)
theorem cl_c126 : GoodCl (3800 + 126) := goodCl_of (by kernel_rfl)
theorem cl_c127 : GoodCl (3800 + 127) := goodCl_of (by kernel_rfl)
theorem cl_c128 : GoodCl (3800 + 128) := goodCl_of (by kernel_rfl)
theorem cl_c129 : GoodCl (3800 + 129) := goodCl_of (by kernel_rfl)
theorem cl_c130 : GoodCl (3800 + 130) := goodCl_of (by kernel_rfl)
theorem cl_c131 : GoodCl (3800 + 131) := goodCl_of (by kernel_rfl)
theorem cl_c132 : GoodCl (3800 + 132) := goodCl_of (by kernel_rfl)
theorem cl_c133 : GoodCl (3800 + 133) := goodCl_of (by kernel_rfl)
theorem cl_c134 : GoodCl (3800 + 134) := goodCl_of (by kernel_rfl)
theorem cl_c135 : GoodCl (3800 + 135) := goodCl_of (by kernel_rfl)
theorem cl_c136 : GoodCl (3800 + 136) := goodCl_of (by kernel_rfl)
theorem cl_c137 : GoodCl (3800 + 137) := goodCl_of (by kernel_rfl)
theorem cl_c138 : GoodCl (3800 + 138) := goodCl_of (by kernel_rfl)
theorem cl_c139 : GoodCl (3800 + 139) := goodCl_of (by kernel_rfl)
theorem cl_c140 : GoodCl (3800 + 140) := goodCl_of (by kernel_rfl)
theorem cl_c141 : GoodCl (3800 + 141) := goodCl_of (by kernel_rfl)
theorem cl_c142 : GoodCl (3800 + 142) := goodCl_of (by kernel_rfl)
theorem cl_c143 : GoodCl (3800 + 143) := goodCl_of (by kernel_rfl)
theorem cl_c144 : GoodCl (3800 + 144) := goodCl_of (by kernel_rfl)
theorem cl_c145 : GoodCl (3800 + 145) := goodCl_of (by kernel_rfl)
theorem cl_c146 : GoodCl (3800 + 146) := goodCl_of (by kernel_rfl)
theorem cl_c147 : GoodCl (3800 + 147) := goodCl_of (by kernel_rfl)
theorem cl_c148 : GoodCl (3800 + 148) := goodCl_of (by kernel_rfl)
theorem cl_c149 : GoodCl (3800 + 149) := goodCl_of (by kernel_rfl)
end Go.Ax
