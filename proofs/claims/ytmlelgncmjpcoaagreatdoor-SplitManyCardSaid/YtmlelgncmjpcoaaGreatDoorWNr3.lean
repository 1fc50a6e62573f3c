/-
  What is read of a text of SplitMany, reckoned by the kernel.
-/
import Derived.Test.YtmlelgncmjpcoaaGreatDoorWNm
namespace Go.Ax
set_option maxRecDepth 100000
theorem sm_read3 : cleanR (callX E1 2000 8 [strN smT3] St0) = some smA3 := by kernel_rfl
end Go.Ax
