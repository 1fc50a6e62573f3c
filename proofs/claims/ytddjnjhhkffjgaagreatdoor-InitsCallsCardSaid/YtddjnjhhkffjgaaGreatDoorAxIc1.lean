/-
  Cases of InitsCalls, reckoned by the kernel.
-/
import Derived.Test.YtddjnjhhkffjgaaGreatDoorAxIcW
namespace Go.Ax
set_option maxRecDepth 100000
theorem initsCallsc0z1 : endsTrue 4 ((comp E1 60 initsCallsRest none).c (callX E1 2000) (fr2 0 1) [] St0) = true := by kernel_rfl
theorem initsCallsc3z2 : endsTrue 4 ((comp E1 60 initsCallsRest none).c (callX E1 2000) (fr2 3 2) [] St0) = true := by kernel_rfl
theorem initsCallsc5z1 : endsTrue 4 ((comp E1 60 initsCallsRest none).c (callX E1 2000) (fr2 5 1) [] St0) = true := by kernel_rfl
theorem initsCallsc6z4 : endsTrue 4 ((comp E1 60 initsCallsRest none).c (callX E1 2000) (fr2 6 4) [] St0) = true := by kernel_rfl
theorem initsCallsc7z6 : endsTrue 4 ((comp E1 60 initsCallsRest none).c (callX E1 2000) (fr2 7 6) [] St0) = true := by kernel_rfl
theorem initsCallsc8z7 : endsTrue 4 ((comp E1 60 initsCallsRest none).c (callX E1 2000) (fr2 8 7) [] St0) = true := by kernel_rfl
theorem initsCallsc9z7 : endsTrue 4 ((comp E1 60 initsCallsRest none).c (callX E1 2000) (fr2 9 7) [] St0) = true := by kernel_rfl
theorem initsCallsc10z6 : endsTrue 4 ((comp E1 60 initsCallsRest none).c (callX E1 2000) (fr2 10 6) [] St0) = true := by kernel_rfl
theorem initsCallsc11z4 : endsTrue 4 ((comp E1 60 initsCallsRest none).c (callX E1 2000) (fr2 11 4) [] St0) = true := by kernel_rfl
theorem initsCallsc12z1 : endsTrue 4 ((comp E1 60 initsCallsRest none).c (callX E1 2000) (fr2 12 1) [] St0) = true := by kernel_rfl
theorem initsCallsc12z11 : endsTrue 4 ((comp E1 60 initsCallsRest none).c (callX E1 2000) (fr2 12 11) [] St0) = true := by kernel_rfl
end Go.Ax
