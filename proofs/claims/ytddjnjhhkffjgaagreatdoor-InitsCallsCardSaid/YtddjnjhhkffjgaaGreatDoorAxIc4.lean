/-
  Cases of InitsCalls, reckoned by the kernel.
-/
import Derived.Test.YtddjnjhhkffjgaaGreatDoorAxIcW
namespace Go.Ax
set_option maxRecDepth 100000
theorem initsCallsc1z2 : endsTrue 4 ((comp E1 60 initsCallsRest none).c (callX E1 2000) (fr2 1 2) [] St0) = true := by kernel_rfl
theorem initsCallsc4z0 : endsTrue 4 ((comp E1 60 initsCallsRest none).c (callX E1 2000) (fr2 4 0) [] St0) = true := by kernel_rfl
theorem initsCallsc5z4 : endsTrue 4 ((comp E1 60 initsCallsRest none).c (callX E1 2000) (fr2 5 4) [] St0) = true := by kernel_rfl
theorem initsCallsc6z7 : endsTrue 4 ((comp E1 60 initsCallsRest none).c (callX E1 2000) (fr2 6 7) [] St0) = true := by kernel_rfl
theorem initsCallsc8z0 : endsTrue 4 ((comp E1 60 initsCallsRest none).c (callX E1 2000) (fr2 8 0) [] St0) = true := by kernel_rfl
theorem initsCallsc9z0 : endsTrue 4 ((comp E1 60 initsCallsRest none).c (callX E1 2000) (fr2 9 0) [] St0) = true := by kernel_rfl
theorem initsCallsc9z10 : endsTrue 4 ((comp E1 60 initsCallsRest none).c (callX E1 2000) (fr2 9 10) [] St0) = true := by kernel_rfl
theorem initsCallsc10z9 : endsTrue 4 ((comp E1 60 initsCallsRest none).c (callX E1 2000) (fr2 10 9) [] St0) = true := by kernel_rfl
theorem initsCallsc11z7 : endsTrue 4 ((comp E1 60 initsCallsRest none).c (callX E1 2000) (fr2 11 7) [] St0) = true := by kernel_rfl
theorem initsCallsc12z4 : endsTrue 4 ((comp E1 60 initsCallsRest none).c (callX E1 2000) (fr2 12 4) [] St0) = true := by kernel_rfl
end Go.Ax
