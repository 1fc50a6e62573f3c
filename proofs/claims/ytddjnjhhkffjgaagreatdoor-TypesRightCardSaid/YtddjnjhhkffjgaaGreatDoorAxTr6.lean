/-
  Cases of TypesRight, reckoned by the kernel.
-/
import Derived.Test.YtddjnjhhkffjgaaGreatDoorAxTrW
namespace Go.Ax
set_option maxRecDepth 100000
theorem typesRightcfft0 : endsTrue 8 ((comp E1 81 typesRightRest none).c (callX E1 2000) (frT false false true 0) [] St0) = true := by kernel_rfl
theorem typesRightcttt2 : endsTrue 8 ((comp E1 81 typesRightRest none).c (callX E1 2000) (frT true true true 2) [] St0) = true := by kernel_rfl
theorem typesRightctft3 : endsTrue 8 ((comp E1 81 typesRightRest none).c (callX E1 2000) (frT true false true 3) [] St0) = true := by kernel_rfl
theorem typesRightcftt4 : endsTrue 8 ((comp E1 81 typesRightRest none).c (callX E1 2000) (frT false true true 4) [] St0) = true := by kernel_rfl
theorem typesRightcfft5 : endsTrue 8 ((comp E1 81 typesRightRest none).c (callX E1 2000) (frT false false true 5) [] St0) = true := by kernel_rfl
theorem typesRightcttt7 : endsTrue 8 ((comp E1 81 typesRightRest none).c (callX E1 2000) (frT true true true 7) [] St0) = true := by kernel_rfl
theorem typesRightctft8 : endsTrue 8 ((comp E1 81 typesRightRest none).c (callX E1 2000) (frT true false true 8) [] St0) = true := by kernel_rfl
theorem typesRightcftt9 : endsTrue 8 ((comp E1 81 typesRightRest none).c (callX E1 2000) (frT false true true 9) [] St0) = true := by kernel_rfl
theorem typesRightcfft10 : endsTrue 8 ((comp E1 81 typesRightRest none).c (callX E1 2000) (frT false false true 10) [] St0) = true := by kernel_rfl
end Go.Ax
