/-
  FlatDoubles with 9 nodes: parts, reckoned.
-/
import Derived.Test.YtjgknelmjdallaaGreatDoorFdFk9
namespace Go.Ax
set_option maxRecDepth 100000
theorem fk9_8_ok : fk9_8.says (callX E1 2000 171 fk9_8.args fk9_8.st) = true := by kernel_rfl
theorem fk9_9_ok : fk9_9.says (callX E1 2000 171 fk9_9.args fk9_9.st) = true := by kernel_rfl
theorem fk9_10_ok : fk9_10.says (callX E1 2000 171 fk9_10.args fk9_10.st) = true := by kernel_rfl
theorem fk9_11_ok : fk9_11.says (callX E1 2000 171 fk9_11.args fk9_11.st) = true := by kernel_rfl
end Go.Ax
