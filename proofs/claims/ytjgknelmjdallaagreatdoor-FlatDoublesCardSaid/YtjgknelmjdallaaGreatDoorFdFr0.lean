/-
  FlatDoubles with few nodes.
-/
import Derived.Test.YtjgknelmjdallaaGreatDoorFdFw2
namespace Go.Ax
set_option maxRecDepth 100000
theorem fkS1 : endsTrue 2 ((comp E1 103 flatDoublesRest none).c (callX E1 2000) (fr1 (1 : Int)) [] St0) = true := by kernel_rfl
theorem fkS2 : endsTrue 2 ((comp E1 103 flatDoublesRest none).c (callX E1 2000) (fr1 (2 : Int)) [] St0) = true := by kernel_rfl
theorem fkS3 : endsTrue 2 ((comp E1 103 flatDoublesRest none).c (callX E1 2000) (fr1 (3 : Int)) [] St0) = true := by kernel_rfl
theorem fkS4 : endsTrue 2 ((comp E1 103 flatDoublesRest none).c (callX E1 2000) (fr1 (4 : Int)) [] St0) = true := by kernel_rfl
theorem fkS5 : endsTrue 2 ((comp E1 103 flatDoublesRest none).c (callX E1 2000) (fr1 (5 : Int)) [] St0) = true := by kernel_rfl
theorem fkS6 : endsTrue 2 ((comp E1 103 flatDoublesRest none).c (callX E1 2000) (fr1 (6 : Int)) [] St0) = true := by kernel_rfl
end Go.Ax
