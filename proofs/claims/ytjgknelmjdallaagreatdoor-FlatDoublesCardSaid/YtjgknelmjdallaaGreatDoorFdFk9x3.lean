/-
  FlatDoubles with 9 nodes: parts, reckoned.
-/
import Derived.Test.YtjgknelmjdallaaGreatDoorFdFk9
namespace Go.Ax
set_option maxRecDepth 100000
theorem fk9_12_ok : fk9_12.says (callX E1 2000 171 fk9_12.args fk9_12.st) = true := by kernel_rfl
theorem fk9_13_ok : fk9_13.says (callX E1 2000 171 fk9_13.args fk9_13.st) = true := by kernel_rfl
theorem fk9_14_ok : fk9_14.says (callX E1 2000 171 fk9_14.args fk9_14.st) = true := by kernel_rfl
theorem fk9_15_ok : fk9_15.says (callX E1 2000 171 fk9_15.args fk9_15.st) = true := by kernel_rfl
end Go.Ax
