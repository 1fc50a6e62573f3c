/-
  FlatDoubles with 11 nodes: parts, reckoned.
-/
import Derived.Test.YtjgknelmjdallaaGreatDoorFdFk11
namespace Go.Ax
set_option maxRecDepth 100000
theorem fk11_12_ok : fk11_12.says (callX E1 2000 171 fk11_12.args fk11_12.st) = true := by kernel_rfl
theorem fk11_13_ok : fk11_13.says (callX E1 2000 171 fk11_13.args fk11_13.st) = true := by kernel_rfl
theorem fk11_14_ok : fk11_14.says (callX E1 2000 171 fk11_14.args fk11_14.st) = true := by kernel_rfl
theorem fk11_15_ok : fk11_15.says (callX E1 2000 171 fk11_15.args fk11_15.st) = true := by kernel_rfl
end Go.Ax
