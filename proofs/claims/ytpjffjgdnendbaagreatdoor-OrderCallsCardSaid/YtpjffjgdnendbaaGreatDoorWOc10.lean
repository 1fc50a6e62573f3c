/-
  Cases of OrderCalls, reckoned by the kernel.
-/
import Derived.Test.YtpjffjgdnendbaaGreatDoorWOw
namespace Go.Ax
set_option maxRecDepth 100000
theorem orderCalls_c9_10 : endsTrue 4 ((comp E1 73 orderCallsRest none).c (callX E1 2000) (fr2 ((9 + 1 : Nat) : Int) ((10 : Nat) : Int)) [] St0) = true := by kernel_rfl
theorem orderCalls_c8_10 : endsTrue 4 ((comp E1 73 orderCallsRest none).c (callX E1 2000) (fr2 ((8 + 1 : Nat) : Int) ((10 : Nat) : Int)) [] St0) = true := by kernel_rfl
theorem orderCalls_c6_2 : endsTrue 4 ((comp E1 73 orderCallsRest none).c (callX E1 2000) (fr2 ((6 + 1 : Nat) : Int) ((2 : Nat) : Int)) [] St0) = true := by kernel_rfl
theorem orderCalls_c6_5 : endsTrue 4 ((comp E1 73 orderCallsRest none).c (callX E1 2000) (fr2 ((6 + 1 : Nat) : Int) ((5 : Nat) : Int)) [] St0) = true := by kernel_rfl
theorem orderCalls_c4_6 : endsTrue 4 ((comp E1 73 orderCallsRest none).c (callX E1 2000) (fr2 ((4 + 1 : Nat) : Int) ((6 : Nat) : Int)) [] St0) = true := by kernel_rfl
theorem orderCalls_c1_1 : endsTrue 4 ((comp E1 73 orderCallsRest none).c (callX E1 2000) (fr2 ((1 + 1 : Nat) : Int) ((1 : Nat) : Int)) [] St0) = true := by kernel_rfl
theorem orderCalls_c0_1 : endsTrue 4 ((comp E1 73 orderCallsRest none).c (callX E1 2000) (fr2 ((0 + 1 : Nat) : Int) ((1 : Nat) : Int)) [] St0) = true := by kernel_rfl
end Go.Ax
