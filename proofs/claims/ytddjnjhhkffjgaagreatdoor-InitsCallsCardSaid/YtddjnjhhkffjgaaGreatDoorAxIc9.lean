/-
  Cases of InitsCalls, reckoned by the kernel.
-/
import Derived.Test.YtddjnjhhkffjgaaGreatDoorAxIcW
namespace Go.Ax
set_option maxRecDepth 100000
theorem initsCallsc3z0 : endsTrue 4 ((comp E1 60 initsCallsRest none).c (callX E1 2000) (fr2 3 0) [] St0) = true := by kernel_rfl
theorem initsCallsc4z5 : endsTrue 4 ((comp E1 60 initsCallsRest none).c (callX E1 2000) (fr2 4 5) [] St0) = true := by kernel_rfl
theorem initsCallsc6z2 : endsTrue 4 ((comp E1 60 initsCallsRest none).c (callX E1 2000) (fr2 6 2) [] St0) = true := by kernel_rfl
theorem initsCallsc7z4 : endsTrue 4 ((comp E1 60 initsCallsRest none).c (callX E1 2000) (fr2 7 4) [] St0) = true := by kernel_rfl
theorem initsCallsc8z5 : endsTrue 4 ((comp E1 60 initsCallsRest none).c (callX E1 2000) (fr2 8 5) [] St0) = true := by kernel_rfl
theorem initsCallsc9z5 : endsTrue 4 ((comp E1 60 initsCallsRest none).c (callX E1 2000) (fr2 9 5) [] St0) = true := by kernel_rfl
theorem initsCallsc10z4 : endsTrue 4 ((comp E1 60 initsCallsRest none).c (callX E1 2000) (fr2 10 4) [] St0) = true := by kernel_rfl
theorem initsCallsc11z2 : endsTrue 4 ((comp E1 60 initsCallsRest none).c (callX E1 2000) (fr2 11 2) [] St0) = true := by kernel_rfl
theorem initsCallsc11z12 : endsTrue 4 ((comp E1 60 initsCallsRest none).c (callX E1 2000) (fr2 11 12) [] St0) = true := by kernel_rfl
theorem initsCallsc12z9 : endsTrue 4 ((comp E1 60 initsCallsRest none).c (callX E1 2000) (fr2 12 9) [] St0) = true := by kernel_rfl
end Go.Ax
