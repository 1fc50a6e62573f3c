/-
  FlatDoubles with 10 nodes: parts, reckoned.
-/
import Derived.Test.YtjgknelmjdallaaGreatDoorFdFk10
namespace Go.Ax
set_option maxRecDepth 100000
theorem fk10_4_ok : fk10_4.says (callX E1 2000 171 fk10_4.args fk10_4.st) = true := by kernel_rfl
theorem fk10_5_ok : fk10_5.says (callX E1 2000 171 fk10_5.args fk10_5.st) = true := by kernel_rfl
theorem fk10_6_ok : fk10_6.says (callX E1 2000 171 fk10_6.args fk10_6.st) = true := by kernel_rfl
theorem fk10_7_ok : fk10_7.says (callX E1 2000 171 fk10_7.args fk10_7.st) = true := by kernel_rfl
end Go.Ax
