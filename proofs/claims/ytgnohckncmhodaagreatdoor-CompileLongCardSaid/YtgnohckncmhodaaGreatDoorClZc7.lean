/-
  Cases of CompileLong, reckoned by the kernel.
-/
import Derived.Test.YtgnohckncmhodaaGreatDoorClZcV
set_option linter.unusedVariables false
set_option linter.unusedSimpArgs false
namespace Go.Ax
open Go.RowKit Go.Proofs
set_option linter.unusedVariables false
set_option linter.unusedSimpArgs false
set_option maxRecDepth 100000
theorem cl_c175 : GoodCl (3800 + 175) := goodCl_of (by kernel_rfl)
theorem cl_c176 : GoodCl (3800 + 176) := goodCl_of (by kernel_rfl)
theorem cl_c177 : GoodCl (3800 + 177) := goodCl_of (by kernel_rfl)
theorem cl_c178 : GoodCl (3800 + 178) := goodCl_of (by kernel_rfl)
theorem cl_c179 : GoodCl (3800 + 179) := goodCl_of (by kernel_rfl)
theorem cl_c180 : GoodCl (3800 + 180) := goodCl_of (by kernel_rfl)
theorem cl_c181 : GoodCl (3800 + 181) := goodCl_of (by kernel_rfl)
theorem cl_c182 : GoodCl (3800 + 182) := goodCl_of (by kernel_rfl)
theorem cl_c183 : GoodCl (3800 + 183) := goodCl_of (by kernel_rfl)
theorem cl_c184 : GoodCl (3800 + 184) := goodCl_of (by kernel_rfl)
theorem cl_c185 : GoodCl (3800 + 185) := goodCl_of (by kernel_rfl)
theorem cl_c186 : GoodCl (3800 + 186) := goodCl_of (by kernel_rfl)
theorem cl_c187 : GoodCl (3800 + 187) := goodCl_of (by kernel_rfl)
theorem cl_c188 : GoodCl (3800 + 188) := goodCl_of (by kernel_rfl)
theorem cl_c189 : GoodCl (3800 + 189) := goodCl_of (by kernel_rfl)
theorem cl_c190 : GoodCl (3800 + 190) := goodCl_of (by kernel_rfl)
theorem cl_c191 : GoodCl (3800 + 191) := goodCl_of (by kernel_rfl)
theorem cl_c192 : GoodCl (3800 + 192) := goodCl_of (by kernel_rfl)
theorem cl_c193 : GoodCl (3800 + 193) := goodCl_of (by kernel_rfl)
theorem cl_c194 : GoodCl (3800 + 194) := goodCl_of (by kernel_rfl)
theorem cl_c195 : GoodCl (3800 + 195) := goodCl_of (by kernel_rfl)
theorem cl_c196 : GoodCl (3800 + 196) := goodCl_of (by kernel_rfl)
theorem cl_c197 : GoodCl (3800 + 197) := goodCl_of (by kernel_rfl)
theorem cl_c198 : GoodCl (3800 + 198) := goodCl_of (by kernel_rfl)
theorem cl_c199 : GoodCl (3800 + 199) := goodCl_of (by kernel_rfl)
end Go.Ax
