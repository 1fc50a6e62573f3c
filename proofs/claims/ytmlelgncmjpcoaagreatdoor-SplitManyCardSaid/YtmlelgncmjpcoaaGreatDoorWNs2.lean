/-
  A case of SplitMany, reckoned by the kernel.
-/
import Derived.Test.YtmlelgncmjpcoaaGreatDoorWNw
namespace Go.Ax
set_option maxRecDepth 100000
theorem splitMany_c2 : GoodSm 2 := goodSm_of (E := E1) e1_ok e1_intr rfl rfl (by kernel_rfl)
end Go.Ax
