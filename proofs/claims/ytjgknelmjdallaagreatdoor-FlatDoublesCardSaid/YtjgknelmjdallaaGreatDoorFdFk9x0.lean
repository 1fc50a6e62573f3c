/-
  FlatDoubles with 9 nodes: parts, reckoned.
-/
import Derived.Test.YtjgknelmjdallaaGreatDoorFdFk9
namespace Go.Ax
set_option maxRecDepth 100000
theorem fk9_0_ok : fk9_0.says (callX E1 2000 171 fk9_0.args fk9_0.st) = true := by kernel_rfl
theorem fk9_1_ok : fk9_1.says (callX E1 2000 171 fk9_1.args fk9_1.st) = true := by kernel_rfl
theorem fk9_2_ok : fk9_2.says (callX E1 2000 171 fk9_2.args fk9_2.st) = true := by kernel_rfl
theorem fk9_3_ok : fk9_3.says (callX E1 2000 171 fk9_3.args fk9_3.st) = true := by kernel_rfl
end Go.Ax
