/-
  A case of SplitMany, reckoned by the kernel.
-/
import Derived.Test.YtmlelgncmjpcoaaGreatDoorWNe
namespace Go.Ax
set_option maxRecDepth 100000
theorem splitMany_c5 : GoodSm 5 := goodSm_of (E := E2) e2_ok e2_intr rfl rfl (by kernel_rfl)
end Go.Ax
