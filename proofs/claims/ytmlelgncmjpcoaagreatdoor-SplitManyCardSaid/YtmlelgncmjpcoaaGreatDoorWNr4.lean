/-
  What is read of a text of SplitMany, reckoned by the kernel.
-/
import Derived.Test.YtmlelgncmjpcoaaGreatDoorWNm
namespace Go.Ax
set_option maxRecDepth 100000
theorem sm_read4 : cleanR (callX E1 2000 8 [strN smT4] St0) = some smA4 := by kernel_rfl
end Go.Ax
