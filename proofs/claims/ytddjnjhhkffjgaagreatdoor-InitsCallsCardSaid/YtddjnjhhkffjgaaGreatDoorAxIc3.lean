/-
  Cases of InitsCalls, reckoned by the kernel.
-/
import Derived.Test.YtddjnjhhkffjgaaGreatDoorAxIcW
namespace Go.Ax
set_option maxRecDepth 100000
theorem initsCallsc1z1 : endsTrue 4 ((comp E1 60 initsCallsRest none).c (callX E1 2000) (fr2 1 1) [] St0) = true := by kernel_rfl
theorem initsCallsc3z4 : endsTrue 4 ((comp E1 60 initsCallsRest none).c (callX E1 2000) (fr2 3 4) [] St0) = true := by kernel_rfl
theorem initsCallsc5z3 : endsTrue 4 ((comp E1 60 initsCallsRest none).c (callX E1 2000) (fr2 5 3) [] St0) = true := by kernel_rfl
theorem initsCallsc6z6 : endsTrue 4 ((comp E1 60 initsCallsRest none).c (callX E1 2000) (fr2 6 6) [] St0) = true := by kernel_rfl
theorem initsCallsc7z8 : endsTrue 4 ((comp E1 60 initsCallsRest none).c (callX E1 2000) (fr2 7 8) [] St0) = true := by kernel_rfl
theorem initsCallsc8z9 : endsTrue 4 ((comp E1 60 initsCallsRest none).c (callX E1 2000) (fr2 8 9) [] St0) = true := by kernel_rfl
theorem initsCallsc9z9 : endsTrue 4 ((comp E1 60 initsCallsRest none).c (callX E1 2000) (fr2 9 9) [] St0) = true := by kernel_rfl
theorem initsCallsc10z8 : endsTrue 4 ((comp E1 60 initsCallsRest none).c (callX E1 2000) (fr2 10 8) [] St0) = true := by kernel_rfl
theorem initsCallsc11z6 : endsTrue 4 ((comp E1 60 initsCallsRest none).c (callX E1 2000) (fr2 11 6) [] St0) = true := by kernel_rfl
theorem initsCallsc12z3 : endsTrue 4 ((comp E1 60 initsCallsRest none).c (callX E1 2000) (fr2 12 3) [] St0) = true := by kernel_rfl
theorem initsCallsc12z13 : endsTrue 4 ((comp E1 60 initsCallsRest none).c (callX E1 2000) (fr2 12 13) [] St0) = true := by kernel_rfl
end Go.Ax
