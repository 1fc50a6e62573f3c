/-
  FlatDoubles with 8 nodes: parts, reckoned.
-/
import Derived.Test.YtjgknelmjdallaaGreatDoorFdFk8
namespace Go.Ax
set_option maxRecDepth 100000
theorem fk8_4_ok : fk8_4.says (callX E1 2000 171 fk8_4.args fk8_4.st) = true := by kernel_rfl
theorem fk8_5_ok : fk8_5.says (callX E1 2000 171 fk8_5.args fk8_5.st) = true := by kernel_rfl
theorem fk8_6_ok : fk8_6.says (callX E1 2000 171 fk8_6.args fk8_6.st) = true := by kernel_rfl
theorem fk8_7_ok : fk8_7.says (callX E1 2000 171 fk8_7.args fk8_7.st) = true := by kernel_rfl
end Go.Ax
