/-
  FlatDoubles with 12 nodes: parts, reckoned.
-/
import Derived.Test.YtjgknelmjdallaaGreatDoorFdFk12
namespace Go.Ax
set_option maxRecDepth 100000
theorem fk12_4_ok : fk12_4.says (callX E1 2000 171 fk12_4.args fk12_4.st) = true := by kernel_rfl
theorem fk12_5_ok : fk12_5.says (callX E1 2000 171 fk12_5.args fk12_5.st) = true := by kernel_rfl
theorem fk12_6_ok : fk12_6.says (callX E1 2000 171 fk12_6.args fk12_6.st) = true := by kernel_rfl
theorem fk12_7_ok : fk12_7.says (callX E1 2000 171 fk12_7.args fk12_7.st) = true := by kernel_rfl
end Go.Ax
