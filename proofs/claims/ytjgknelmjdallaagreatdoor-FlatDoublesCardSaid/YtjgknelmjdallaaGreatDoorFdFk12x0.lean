/-
  FlatDoubles with 12 nodes: parts, reckoned.
-/
import Derived.Test.YtjgknelmjdallaaGreatDoorFdFk12
namespace Go.Ax
set_option maxRecDepth 100000
theorem fk12_0_ok : fk12_0.says (callX E1 2000 171 fk12_0.args fk12_0.st) = true := by kernel_rfl
theorem fk12_1_ok : fk12_1.says (callX E1 2000 171 fk12_1.args fk12_1.st) = true := by kernel_rfl
theorem fk12_2_ok : fk12_2.says (callX E1 2000 171 fk12_2.args fk12_2.st) = true := by kernel_rfl
theorem fk12_3_ok : fk12_3.says (callX E1 2000 171 fk12_3.args fk12_3.st) = true := by kernel_rfl
end Go.Ax
