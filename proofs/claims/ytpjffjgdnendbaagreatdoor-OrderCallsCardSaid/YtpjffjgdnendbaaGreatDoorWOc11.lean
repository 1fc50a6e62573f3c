/-
  Cases of OrderCalls, reckoned by the kernel.
-/
import Derived.Test.YtpjffjgdnendbaaGreatDoorWOw
namespace Go.Ax
set_option maxRecDepth 100000
theorem orderCalls_c9_11 : endsTrue 4 ((comp E1 73 orderCallsRest none).c (callX E1 2000) (fr2 ((9 + 1 : Nat) : Int) ((11 : Nat) : Int)) [] St0) = true := by kernel_rfl
theorem orderCalls_c7_0 : endsTrue 4 ((comp E1 73 orderCallsRest none).c (callX E1 2000) (fr2 ((7 + 1 : Nat) : Int) ((0 : Nat) : Int)) [] St0) = true := by kernel_rfl
theorem orderCalls_c7_1 : endsTrue 4 ((comp E1 73 orderCallsRest none).c (callX E1 2000) (fr2 ((7 + 1 : Nat) : Int) ((1 : Nat) : Int)) [] St0) = true := by kernel_rfl
theorem orderCalls_c6_6 : endsTrue 4 ((comp E1 73 orderCallsRest none).c (callX E1 2000) (fr2 ((6 + 1 : Nat) : Int) ((6 : Nat) : Int)) [] St0) = true := by kernel_rfl
theorem orderCalls_c3_0 : endsTrue 4 ((comp E1 73 orderCallsRest none).c (callX E1 2000) (fr2 ((3 + 1 : Nat) : Int) ((0 : Nat) : Int)) [] St0) = true := by kernel_rfl
theorem orderCalls_c3_3 : endsTrue 4 ((comp E1 73 orderCallsRest none).c (callX E1 2000) (fr2 ((3 + 1 : Nat) : Int) ((3 : Nat) : Int)) [] St0) = true := by kernel_rfl
end Go.Ax
