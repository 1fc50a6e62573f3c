/-
  Cases of CompileLong, reckoned by the kernel.
-/
import Derived.Test.YtgnohckncmhodaaGreatDoorClZcV
set_option linter.unusedVariables false
set_option linter.unusedSimpArgs false
namespace Go.Ax
open Go.RowKit Go.Proofs
set_option linter.unusedVariables false
set_option linter.unusedSimpArgs false
set_option maxRecDepth 100000
theorem cl_c225 : GoodCl (3800 + 225) := goodCl_of (by kernel_rfl)
theorem cl_c226 : GoodCl (3800 + 226) := goodCl_of (by kernel_rfl)
theorem cl_c227 : GoodCl (3800 + 227) := goodCl_of (by kernel_rfl)
theorem cl_c228 : GoodCl (3800 + 228) := goodCl_of (by kernel_rfl)
theorem cl_c229 : GoodCl (3800 + 229) := goodCl_of (by kernel_rfl)
theorem cl_c230 : GoodCl (3800 + 230) := goodCl_of (by kernel_rfl)
theorem cl_c231 : GoodCl (3800 + 231) := goodCl_of (by kernel_rfl)
theorem cl_c232 : GoodCl (3800 + 232) := goodCl_of (by kernel_rfl)
theorem cl_c233 : GoodCl (3800 + 233) := goodCl_of (by kernel_rfl)
theorem cl_c234 : GoodCl (3800 + 234) := goodCl_of (by kernel_rfl)
theorem cl_c235 : GoodCl (3800 + 235) := goodCl_of (by kernel_rfl)
theorem cl_c236 : GoodCl (3800 + 236) := goodCl_of (by kernel_rfl)
theorem cl_c237 : GoodCl (3800 + 237) := goodCl_of (by kernel_rfl)
theorem cl_c238 : GoodCl (3800 + 238) := goodCl_of (by kernel_rfl)
theorem cl_c239 : GoodCl (3800 + 239) := goodCl_of (by kernel_rfl)
theorem cl_c240 : GoodCl (3800 + 240) := goodCl_of (by kernel_rfl)
theorem cl_c241 : GoodCl (3800 + 241) := goodCl_of (by kernel_rfl)
theorem cl_c242 : GoodCl (3800 + 242) := goodCl_of (by kernel_rfl)
theorem cl_c243 : GoodCl (3800 + 243) := goodCl_of (by kernel_rfl)
theorem cl_c244 : GoodCl (3800 + 244) := goodCl_of (by kernel_rfl)
theorem cl_c245 : GoodCl (3800 + 245) := goodCl_of (by kernel_rfl)
theorem cl_c246 : GoodCl (3800 + 246) := goodCl_of (by kernel_rfl)
theorem cl_c247 : GoodCl (3800 + 247) := goodCl_of (by kernel_rfl)
theorem cl_c248 : GoodCl (3800 + 248) := goodCl_of (by kernel_rfl)
theorem cl_c249 : GoodCl (3800 + 249) := goodCl_of (by kernel_rfl)
end Go.Ax
