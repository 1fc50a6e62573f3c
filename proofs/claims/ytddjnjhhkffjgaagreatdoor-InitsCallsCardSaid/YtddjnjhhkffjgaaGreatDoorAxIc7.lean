/-
  Cases of InitsCalls, reckoned by the kernel.
-/
import Derived.Test.YtddjnjhhkffjgaaGreatDoorAxIcW
namespace Go.Ax
set_option maxRecDepth 100000
theorem initsCallsc2z2 : endsTrue 4 ((comp E1 60 initsCallsRest none).c (callX E1 2000) (fr2 2 2) [] St0) = true := by kernel_rfl
theorem initsCallsc4z3 : endsTrue 4 ((comp E1 60 initsCallsRest none).c (callX E1 2000) (fr2 4 3) [] St0) = true := by kernel_rfl
theorem initsCallsc6z0 : endsTrue 4 ((comp E1 60 initsCallsRest none).c (callX E1 2000) (fr2 6 0) [] St0) = true := by kernel_rfl
theorem initsCallsc7z2 : endsTrue 4 ((comp E1 60 initsCallsRest none).c (callX E1 2000) (fr2 7 2) [] St0) = true := by kernel_rfl
theorem initsCallsc8z3 : endsTrue 4 ((comp E1 60 initsCallsRest none).c (callX E1 2000) (fr2 8 3) [] St0) = true := by kernel_rfl
theorem initsCallsc9z3 : endsTrue 4 ((comp E1 60 initsCallsRest none).c (callX E1 2000) (fr2 9 3) [] St0) = true := by kernel_rfl
theorem initsCallsc10z2 : endsTrue 4 ((comp E1 60 initsCallsRest none).c (callX E1 2000) (fr2 10 2) [] St0) = true := by kernel_rfl
theorem initsCallsc11z0 : endsTrue 4 ((comp E1 60 initsCallsRest none).c (callX E1 2000) (fr2 11 0) [] St0) = true := by kernel_rfl
theorem initsCallsc11z10 : endsTrue 4 ((comp E1 60 initsCallsRest none).c (callX E1 2000) (fr2 11 10) [] St0) = true := by kernel_rfl
theorem initsCallsc12z7 : endsTrue 4 ((comp E1 60 initsCallsRest none).c (callX E1 2000) (fr2 12 7) [] St0) = true := by kernel_rfl
end Go.Ax
