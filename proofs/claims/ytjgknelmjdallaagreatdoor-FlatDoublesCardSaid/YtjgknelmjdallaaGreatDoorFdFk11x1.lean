/-
  FlatDoubles with 11 nodes: parts, reckoned.
-/
import Derived.Test.YtjgknelmjdallaaGreatDoorFdFk11
namespace Go.Ax
set_option maxRecDepth 100000
theorem fk11_4_ok : fk11_4.says (callX E1 2000 171 fk11_4.args fk11_4.st) = true := by kernel_rfl
theorem fk11_5_ok : fk11_5.says (callX E1 2000 171 fk11_5.args fk11_5.st) = true := by kernel_rfl
theorem fk11_6_ok : fk11_6.says (callX E1 2000 171 fk11_6.args fk11_6.st) = true := by kernel_rfl
theorem fk11_7_ok : fk11_7.says (callX E1 2000 171 fk11_7.args fk11_7.st) = true := by kernel_rfl
end Go.Ax
