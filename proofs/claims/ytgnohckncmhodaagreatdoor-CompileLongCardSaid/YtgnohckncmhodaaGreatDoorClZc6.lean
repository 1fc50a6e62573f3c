/-
  Cases of CompileLong, reckoned by the kernel.
-/
import Derived.Test.YtgnohckncmhodaaGreatDoorClZcV
set_option linter.unusedVariables false
set_option linter.unusedSimpArgs false
namespace Go.Ax
open Go.RowKit Go.Proofs
set_option linter.unusedVariables false
set_option linter.unusedSimpArgs false
set_option maxRecDepth 100000
theorem cl_c150 : GoodCl (3800 + 150) := goodCl_of (by kernel_rfl)
theorem cl_c151 : GoodCl (3800 + 151) := goodCl_of (by kernel_rfl)
theorem cl_c152 : GoodCl (3800 + 152) := goodCl_of (by kernel_rfl)
theorem cl_c153 : GoodCl (3800 + 153) := goodCl_of (by kernel_rfl)
theorem cl_c154 : GoodCl (3800 + 154) := goodCl_of (by kernel_rfl)
theorem cl_c155 : GoodCl (3800 + 155) := goodCl_of (by kernel_rfl)
theorem cl_c156 : GoodCl (3800 + 156) := goodCl_of (by kernel_rfl)
theorem cl_c157 : GoodCl (3800 + 157) := goodCl_of (by kernel_rfl)
theorem cl_c158 : GoodCl (3800 + 158) := goodCl_of (by kernel_rfl)
theorem cl_c159 : GoodCl (3800 + 159) := goodCl_of (by kernel_rfl)
theorem cl_c160 : GoodCl (3800 + 160) := goodCl_of (by kernel_rfl)
theorem cl_c161 : GoodCl (3800 + 161) := goodCl_of (by kernel_rfl)
theorem cl_c162 : GoodCl (3800 + 162) := goodCl_of (by kernel_rfl)
theorem cl_c163 : GoodCl (3800 + 163) := goodCl_of (by kernel_rfl)
theorem cl_c164 : GoodCl (3800 + 164) := goodCl_of (by kernel_rfl)
theorem cl_c165 : GoodCl (3800 + 165) := goodCl_of (by kernel_rfl)
theorem cl_c166 : GoodCl (3800 + 166) := goodCl_of (by kernel_rfl)
theorem cl_c167 : GoodCl (3800 + 167) := goodCl_of (by kernel_rfl)
theorem cl_c168 : GoodCl (3800 + 168) := goodCl_of (by kernel_rfl)
theorem cl_c169 : GoodCl (3800 + 169) := goodCl_of (by kernel_rfl)
theorem cl_c170 : GoodCl (3800 + 170) := goodCl_of (by kernel_rfl)
theorem cl_c171 : GoodCl (3800 + 171) := goodCl_of (by kernel_rfl)
theorem cl_c172 : GoodCl (3800 + 172) := goodCl_of (by kernel_rfl)
theorem cl_c173 : GoodCl (3800 + 173) := goodCl_of (by kernel_rfl)
theorem cl_c174 : GoodCl (3800 + 174) := goodCl_of (by kernel_rfl)
end Go.Ax
