/-
  Cases of OrderCalls, reckoned by the kernel.
-/
import Derived.Test.YtpjffjgdnendbaaGreatDoorWOw
namespace Go.Ax
set_option maxRecDepth 100000
theorem orderCalls_c9_9 : endsTrue 4 ((comp E1 73 orderCallsRest none).c (callX E1 2000) (fr2 ((9 + 1 : Nat) : Int) ((9 : Nat) : Int)) [] St0) = true := by kernel_rfl
theorem orderCalls_c8_9 : endsTrue 4 ((comp E1 73 orderCallsRest none).c (callX E1 2000) (fr2 ((8 + 1 : Nat) : Int) ((9 : Nat) : Int)) [] St0) = true := by kernel_rfl
theorem orderCalls_c6_1 : endsTrue 4 ((comp E1 73 orderCallsRest none).c (callX E1 2000) (fr2 ((6 + 1 : Nat) : Int) ((1 : Nat) : Int)) [] St0) = true := by kernel_rfl
theorem orderCalls_c6_4 : endsTrue 4 ((comp E1 73 orderCallsRest none).c (callX E1 2000) (fr2 ((6 + 1 : Nat) : Int) ((4 : Nat) : Int)) [] St0) = true := by kernel_rfl
theorem orderCalls_c4_5 : endsTrue 4 ((comp E1 73 orderCallsRest none).c (callX E1 2000) (fr2 ((4 + 1 : Nat) : Int) ((5 : Nat) : Int)) [] St0) = true := by kernel_rfl
theorem orderCalls_c1_0 : endsTrue 4 ((comp E1 73 orderCallsRest none).c (callX E1 2000) (fr2 ((1 + 1 : Nat) : Int) ((0 : Nat) : Int)) [] St0) = true := by kernel_rfl
theorem orderCalls_c0_0 : endsTrue 4 ((comp E1 73 orderCallsRest none).c (callX E1 2000) (fr2 ((0 + 1 : Nat) : Int) ((0 : Nat) : Int)) [] St0) = true := by kernel_rfl
end Go.Ax
