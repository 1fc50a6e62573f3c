/-
  FlatDoubles with 11 nodes: parts, reckoned.
-/
import Derived.Test.YtjgknelmjdallaaGreatDoorFdFk11
namespace Go.Ax
set_option maxRecDepth 100000
theorem fk11_8_ok : fk11_8.says (callX E1 2000 171 fk11_8.args fk11_8.st) = true := by kernel_rfl
theorem fk11_9_ok : fk11_9.says (callX E1 2000 171 fk11_9.args fk11_9.st) = true := by kernel_rfl
theorem fk11_10_ok : fk11_10.says (callX E1 2000 171 fk11_10.args fk11_10.st) = true := by kernel_rfl
theorem fk11_11_ok : fk11_11.says (callX E1 2000 171 fk11_11.args fk11_11.st) = true := by kernel_rfl
end Go.Ax
