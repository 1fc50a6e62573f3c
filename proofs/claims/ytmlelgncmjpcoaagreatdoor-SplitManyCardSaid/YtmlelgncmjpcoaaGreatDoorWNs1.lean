/-
  A case of SplitMany, reckoned by the kernel.
-/
import Derived.Test.YtmlelgncmjpcoaaGreatDoorWNw
namespace Go.Ax
set_option maxRecDepth 100000
theorem splitMany_c1 : GoodSm 1 := goodSm_of (E := E1) e1_ok e1_intr rfl rfl (by kernel_rfl)
end Go.Ax
