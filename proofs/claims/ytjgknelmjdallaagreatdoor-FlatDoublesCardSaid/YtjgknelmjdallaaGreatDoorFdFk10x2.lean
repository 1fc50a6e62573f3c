/-
  FlatDoubles with 10 nodes: parts, reckoned.
-/
import Derived.Test.YtjgknelmjdallaaGreatDoorFdFk10
namespace Go.Ax
set_option maxRecDepth 100000
theorem fk10_8_ok : fk10_8.says (callX E1 2000 171 fk10_8.args fk10_8.st) = true := by kernel_rfl
theorem fk10_9_ok : fk10_9.says (callX E1 2000 171 fk10_9.args fk10_9.st) = true := by kernel_rfl
theorem fk10_10_ok : fk10_10.says (callX E1 2000 171 fk10_10.args fk10_10.st) = true := by kernel_rfl
theorem fk10_11_ok : fk10_11.says (callX E1 2000 171 fk10_11.args fk10_11.st) = true := by kernel_rfl
end Go.Ax
