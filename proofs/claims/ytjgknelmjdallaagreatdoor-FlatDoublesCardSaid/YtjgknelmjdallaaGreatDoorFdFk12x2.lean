/-
  FlatDoubles with 12 nodes: parts, reckoned.
-/
import Derived.Test.YtjgknelmjdallaaGreatDoorFdFk12
namespace Go.Ax
set_option maxRecDepth 100000
theorem fk12_8_ok : fk12_8.says (callX E1 2000 171 fk12_8.args fk12_8.st) = true := by kernel_rfl
theorem fk12_9_ok : fk12_9.says (callX E1 2000 171 fk12_9.args fk12_9.st) = true := by kernel_rfl
theorem fk12_10_ok : fk12_10.says (callX E1 2000 171 fk12_10.args fk12_10.st) = true := by kernel_rfl
theorem fk12_11_ok : fk12_11.says (callX E1 2000 171 fk12_11.args fk12_11.st) = true := by kernel_rfl
end Go.Ax
