/-
  Cases of InitsCalls, reckoned by the kernel.
-/
import Derived.Test.YtddjnjhhkffjgaaGreatDoorAxIcW
namespace Go.Ax
set_option maxRecDepth 100000
theorem initsCallsc0z0 : endsTrue 4 ((comp E1 60 initsCallsRest none).c (callX E1 2000) (fr2 0 0) [] St0) = true := by kernel_rfl
theorem initsCallsc3z1 : endsTrue 4 ((comp E1 60 initsCallsRest none).c (callX E1 2000) (fr2 3 1) [] St0) = true := by kernel_rfl
theorem initsCallsc5z0 : endsTrue 4 ((comp E1 60 initsCallsRest none).c (callX E1 2000) (fr2 5 0) [] St0) = true := by kernel_rfl
theorem initsCallsc6z3 : endsTrue 4 ((comp E1 60 initsCallsRest none).c (callX E1 2000) (fr2 6 3) [] St0) = true := by kernel_rfl
theorem initsCallsc7z5 : endsTrue 4 ((comp E1 60 initsCallsRest none).c (callX E1 2000) (fr2 7 5) [] St0) = true := by kernel_rfl
theorem initsCallsc8z6 : endsTrue 4 ((comp E1 60 initsCallsRest none).c (callX E1 2000) (fr2 8 6) [] St0) = true := by kernel_rfl
theorem initsCallsc9z6 : endsTrue 4 ((comp E1 60 initsCallsRest none).c (callX E1 2000) (fr2 9 6) [] St0) = true := by kernel_rfl
theorem initsCallsc10z5 : endsTrue 4 ((comp E1 60 initsCallsRest none).c (callX E1 2000) (fr2 10 5) [] St0) = true := by kernel_rfl
theorem initsCallsc11z3 : endsTrue 4 ((comp E1 60 initsCallsRest none).c (callX E1 2000) (fr2 11 3) [] St0) = true := by kernel_rfl
theorem initsCallsc12z0 : endsTrue 4 ((comp E1 60 initsCallsRest none).c (callX E1 2000) (fr2 12 0) [] St0) = true := by kernel_rfl
theorem initsCallsc12z10 : endsTrue 4 ((comp E1 60 initsCallsRest none).c (callX E1 2000) (fr2 12 10) [] St0) = true := by kernel_rfl
end Go.Ax
