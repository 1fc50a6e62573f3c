/-
  FlatDoubles with 10 nodes: parts, reckoned.
-/
import Derived.Test.YtjgknelmjdallaaGreatDoorFdFk10
namespace Go.Ax
set_option maxRecDepth 100000
theorem fk10_0_ok : fk10_0.says (callX E1 2000 171 fk10_0.args fk10_0.st) = true := by kernel_rfl
theorem fk10_1_ok : fk10_1.says (callX E1 2000 171 fk10_1.args fk10_1.st) = true := by kernel_rfl
theorem fk10_2_ok : fk10_2.says (callX E1 2000 171 fk10_2.args fk10_2.st) = true := by kernel_rfl
theorem fk10_3_ok : fk10_3.says (callX E1 2000 171 fk10_3.args fk10_3.st) = true := by kernel_rfl
end Go.Ax
