/-
  Cases of InitsCalls, reckoned by the kernel.
-/
import Derived.Test.YtddjnjhhkffjgaaGreatDoorAxIcW
namespace Go.Ax
set_option maxRecDepth 100000
theorem initsCallsc1z0 : endsTrue 4 ((comp E1 60 initsCallsRest none).c (callX E1 2000) (fr2 1 0) [] St0) = true := by kernel_rfl
theorem initsCallsc3z3 : endsTrue 4 ((comp E1 60 initsCallsRest none).c (callX E1 2000) (fr2 3 3) [] St0) = true := by kernel_rfl
theorem initsCallsc5z2 : endsTrue 4 ((comp E1 60 initsCallsRest none).c (callX E1 2000) (fr2 5 2) [] St0) = true := by kernel_rfl
theorem initsCallsc6z5 : endsTrue 4 ((comp E1 60 initsCallsRest none).c (callX E1 2000) (fr2 6 5) [] St0) = true := by kernel_rfl
theorem initsCallsc7z7 : endsTrue 4 ((comp E1 60 initsCallsRest none).c (callX E1 2000) (fr2 7 7) [] St0) = true := by kernel_rfl
theorem initsCallsc8z8 : endsTrue 4 ((comp E1 60 initsCallsRest none).c (callX E1 2000) (fr2 8 8) [] St0) = true := by kernel_rfl
theorem initsCallsc9z8 : endsTrue 4 ((comp E1 60 initsCallsRest none).c (callX E1 2000) (fr2 9 8) [] St0) = true := by kernel_rfl
theorem initsCallsc10z7 : endsTrue 4 ((comp E1 60 initsCallsRest none).c (callX E1 2000) (fr2 10 7) [] St0) = true := by kernel_rfl
theorem initsCallsc11z5 : endsTrue 4 ((comp E1 60 initsCallsRest none).c (callX E1 2000) (fr2 11 5) [] St0) = true := by kernel_rfl
theorem initsCallsc12z2 : endsTrue 4 ((comp E1 60 initsCallsRest none).c (callX E1 2000) (fr2 12 2) [] St0) = true := by kernel_rfl
theorem initsCallsc12z12 : endsTrue 4 ((comp E1 60 initsCallsRest none).c (callX E1 2000) (fr2 12 12) [] St0) = true := by kernel_rfl
end Go.Ax
