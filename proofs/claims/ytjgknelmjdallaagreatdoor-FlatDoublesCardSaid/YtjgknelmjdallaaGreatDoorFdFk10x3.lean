/-
  FlatDoubles with 10 nodes: parts, reckoned.
-/
import Derived.Test.YtjgknelmjdallaaGreatDoorFdFk10
namespace Go.Ax
set_option maxRecDepth 100000
theorem fk10_12_ok : fk10_12.says (callX E1 2000 171 fk10_12.args fk10_12.st) = true := by kernel_rfl
theorem fk10_13_ok : fk10_13.says (callX E1 2000 171 fk10_13.args fk10_13.st) = true := by kernel_rfl
theorem fk10_14_ok : fk10_14.says (callX E1 2000 171 fk10_14.args fk10_14.st) = true := by kernel_rfl
theorem fk10_15_ok : fk10_15.says (callX E1 2000 171 fk10_15.args fk10_15.st) = true := by kernel_rfl
end Go.Ax
