/-
  FlatDoubles with 11 nodes: parts, reckoned.
-/
import Derived.Test.YtjgknelmjdallaaGreatDoorFdFk11
namespace Go.Ax
set_option maxRecDepth 100000
theorem fk11_0_ok : fk11_0.says (callX E1 2000 171 fk11_0.args fk11_0.st) = true := by kernel_rfl
theorem fk11_1_ok : fk11_1.says (callX E1 2000 171 fk11_1.args fk11_1.st) = true := by kernel_rfl
theorem fk11_2_ok : fk11_2.says (callX E1 2000 171 fk11_2.args fk11_2.st) = true := by kernel_rfl
theorem fk11_3_ok : fk11_3.says (callX E1 2000 171 fk11_3.args fk11_3.st) = true := by kernel_rfl
end Go.Ax
