/-
  FlatDoubles with 7 nodes: parts, reckoned.
-/
import Derived.Test.YtjgknelmjdallaaGreatDoorFdFk7
namespace Go.Ax
set_option maxRecDepth 100000
theorem fk7_0_ok : fk7_0.says (callX E1 2000 171 fk7_0.args fk7_0.st) = true := by kernel_rfl
theorem fk7_1_ok : fk7_1.says (callX E1 2000 171 fk7_1.args fk7_1.st) = true := by kernel_rfl
end Go.Ax
