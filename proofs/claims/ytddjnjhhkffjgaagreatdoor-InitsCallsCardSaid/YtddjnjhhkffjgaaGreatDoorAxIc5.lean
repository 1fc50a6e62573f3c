/-
  Cases of InitsCalls, reckoned by the kernel.
-/
import Derived.Test.YtddjnjhhkffjgaaGreatDoorAxIcW
namespace Go.Ax
set_option maxRecDepth 100000
theorem initsCallsc2z0 : endsTrue 4 ((comp E1 60 initsCallsRest none).c (callX E1 2000) (fr2 2 0) [] St0) = true := by kernel_rfl
theorem initsCallsc4z1 : endsTrue 4 ((comp E1 60 initsCallsRest none).c (callX E1 2000) (fr2 4 1) [] St0) = true := by kernel_rfl
theorem initsCallsc5z5 : endsTrue 4 ((comp E1 60 initsCallsRest none).c (callX E1 2000) (fr2 5 5) [] St0) = true := by kernel_rfl
theorem initsCallsc7z0 : endsTrue 4 ((comp E1 60 initsCallsRest none).c (callX E1 2000) (fr2 7 0) [] St0) = true := by kernel_rfl
theorem initsCallsc8z1 : endsTrue 4 ((comp E1 60 initsCallsRest none).c (callX E1 2000) (fr2 8 1) [] St0) = true := by kernel_rfl
theorem initsCallsc9z1 : endsTrue 4 ((comp E1 60 initsCallsRest none).c (callX E1 2000) (fr2 9 1) [] St0) = true := by kernel_rfl
theorem initsCallsc10z0 : endsTrue 4 ((comp E1 60 initsCallsRest none).c (callX E1 2000) (fr2 10 0) [] St0) = true := by kernel_rfl
theorem initsCallsc10z10 : endsTrue 4 ((comp E1 60 initsCallsRest none).c (callX E1 2000) (fr2 10 10) [] St0) = true := by kernel_rfl
theorem initsCallsc11z8 : endsTrue 4 ((comp E1 60 initsCallsRest none).c (callX E1 2000) (fr2 11 8) [] St0) = true := by kernel_rfl
theorem initsCallsc12z5 : endsTrue 4 ((comp E1 60 initsCallsRest none).c (callX E1 2000) (fr2 12 5) [] St0) = true := by kernel_rfl
end Go.Ax
