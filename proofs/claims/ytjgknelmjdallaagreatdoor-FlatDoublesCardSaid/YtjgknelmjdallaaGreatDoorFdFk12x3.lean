/-
  FlatDoubles with 12 nodes: parts, reckoned.
-/
import Derived.Test.YtjgknelmjdallaaGreatDoorFdFk12
namespace Go.Ax
set_option maxRecDepth 100000
theorem fk12_12_ok : fk12_12.says (callX E1 2000 171 fk12_12.args fk12_12.st) = true := by kernel_rfl
theorem fk12_13_ok : fk12_13.says (callX E1 2000 171 fk12_13.args fk12_13.st) = true := by kernel_rfl
theorem fk12_14_ok : fk12_14.says (callX E1 2000 171 fk12_14.args fk12_14.st) = true := by kernel_rfl
end Go.Ax
