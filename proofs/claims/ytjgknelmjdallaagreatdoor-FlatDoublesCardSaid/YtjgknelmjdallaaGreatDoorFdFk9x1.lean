/-
  FlatDoubles with 9 nodes: parts, reckoned.
-/
import Derived.Test.YtjgknelmjdallaaGreatDoorFdFk9
namespace Go.Ax
set_option maxRecDepth 100000
theorem fk9_4_ok : fk9_4.says (callX E1 2000 171 fk9_4.args fk9_4.st) = true := by kernel_rfl
theorem fk9_5_ok : fk9_5.says (callX E1 2000 171 fk9_5.args fk9_5.st) = true := by kernel_rfl
theorem fk9_6_ok : fk9_6.says (callX E1 2000 171 fk9_6.args fk9_6.st) = true := by kernel_rfl
theorem fk9_7_ok : fk9_7.says (callX E1 2000 171 fk9_7.args fk9_7.st) = true := by kernel_rfl
end Go.Ax
