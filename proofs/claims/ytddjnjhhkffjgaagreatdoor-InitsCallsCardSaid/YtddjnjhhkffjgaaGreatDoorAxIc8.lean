/-
  Cases of InitsCalls, reckoned by the kernel.
-/
import Derived.Test.YtddjnjhhkffjgaaGreatDoorAxIcW
namespace Go.Ax
set_option maxRecDepth 100000
theorem initsCallsc2z3 : endsTrue 4 ((comp E1 60 initsCallsRest none).c (callX E1 2000) (fr2 2 3) [] St0) = true := by kernel_rfl
theorem initsCallsc4z4 : endsTrue 4 ((comp E1 60 initsCallsRest none).c (callX E1 2000) (fr2 4 4) [] St0) = true := by kernel_rfl
theorem initsCallsc6z1 : endsTrue 4 ((comp E1 60 initsCallsRest none).c (callX E1 2000) (fr2 6 1) [] St0) = true := by kernel_rfl
theorem initsCallsc7z3 : endsTrue 4 ((comp E1 60 initsCallsRest none).c (callX E1 2000) (fr2 7 3) [] St0) = true := by kernel_rfl
theorem initsCallsc8z4 : endsTrue 4 ((comp E1 60 initsCallsRest none).c (callX E1 2000) (fr2 8 4) [] St0) = true := by kernel_rfl
theorem initsCallsc9z4 : endsTrue 4 ((comp E1 60 initsCallsRest none).c (callX E1 2000) (fr2 9 4) [] St0) = true := by kernel_rfl
theorem initsCallsc10z3 : endsTrue 4 ((comp E1 60 initsCallsRest none).c (callX E1 2000) (fr2 10 3) [] St0) = true := by kernel_rfl
theorem initsCallsc11z1 : endsTrue 4 ((comp E1 60 initsCallsRest none).c (callX E1 2000) (fr2 11 1) [] St0) = true := by kernel_rfl
theorem initsCallsc11z11 : endsTrue 4 ((comp E1 60 initsCallsRest none).c (callX E1 2000) (fr2 11 11) [] St0) = true := by kernel_rfl
theorem initsCallsc12z8 : endsTrue 4 ((comp E1 60 initsCallsRest none).c (callX E1 2000) (fr2 12 8) [] St0) = true := by kernel_rfl
end Go.Ax
