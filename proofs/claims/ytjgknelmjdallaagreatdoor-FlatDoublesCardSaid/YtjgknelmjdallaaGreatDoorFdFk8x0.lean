/-
  FlatDoubles with 8 nodes: parts, reckoned.
-/
import Derived.Test.YtjgknelmjdallaaGreatDoorFdFk8
namespace Go.Ax
set_option maxRecDepth 100000
theorem fk8_0_ok : fk8_0.says (callX E1 2000 171 fk8_0.args fk8_0.st) = true := by kernel_rfl
theorem fk8_1_ok : fk8_1.says (callX E1 2000 171 fk8_1.args fk8_1.st) = true := by kernel_rfl
theorem fk8_2_ok : fk8_2.says (callX E1 2000 171 fk8_2.args fk8_2.st) = true := by kernel_rfl
theorem fk8_3_ok : fk8_3.says (callX E1 2000 171 fk8_3.args fk8_3.st) = true := by kernel_rfl
end Go.Ax
