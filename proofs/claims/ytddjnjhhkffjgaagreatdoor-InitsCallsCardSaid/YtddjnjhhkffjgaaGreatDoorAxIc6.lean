/-
  Cases of InitsCalls, reckoned by the kernel.
-/
import Derived.Test.YtddjnjhhkffjgaaGreatDoorAxIcW
namespace Go.Ax
set_option maxRecDepth 100000
theorem initsCallsc2z1 : endsTrue 4 ((comp E1 60 initsCallsRest none).c (callX E1 2000) (fr2 2 1) [] St0) = true := by kernel_rfl
theorem initsCallsc4z2 : endsTrue 4 ((comp E1 60 initsCallsRest none).c (callX E1 2000) (fr2 4 2) [] St0) = true := by kernel_rfl
theorem initsCallsc5z6 : endsTrue 4 ((comp E1 60 initsCallsRest none).c (callX E1 2000) (fr2 5 6) [] St0) = true := by kernel_rfl
theorem initsCallsc7z1 : endsTrue 4 ((comp E1 60 initsCallsRest none).c (callX E1 2000) (fr2 7 1) [] St0) = true := by kernel_rfl
theorem initsCallsc8z2 : endsTrue 4 ((comp E1 60 initsCallsRest none).c (callX E1 2000) (fr2 8 2) [] St0) = true := by kernel_rfl
theorem initsCallsc9z2 : endsTrue 4 ((comp E1 60 initsCallsRest none).c (callX E1 2000) (fr2 9 2) [] St0) = true := by kernel_rfl
theorem initsCallsc10z1 : endsTrue 4 ((comp E1 60 initsCallsRest none).c (callX E1 2000) (fr2 10 1) [] St0) = true := by kernel_rfl
theorem initsCallsc10z11 : endsTrue 4 ((comp E1 60 initsCallsRest none).c (callX E1 2000) (fr2 10 11) [] St0) = true := by kernel_rfl
theorem initsCallsc11z9 : endsTrue 4 ((comp E1 60 initsCallsRest none).c (callX E1 2000) (fr2 11 9) [] St0) = true := by kernel_rfl
theorem initsCallsc12z6 : endsTrue 4 ((comp E1 60 initsCallsRest none).c (callX E1 2000) (fr2 12 6) [] St0) = true := by kernel_rfl
end Go.Ax
