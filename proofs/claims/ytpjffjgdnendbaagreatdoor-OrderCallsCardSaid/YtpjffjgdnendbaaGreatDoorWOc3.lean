/-
  Cases of OrderCalls, reckoned by the kernel.
-/
import Derived.Test.YtpjffjgdnendbaaGreatDoorWOw
namespace Go.Ax
set_option maxRecDepth 100000
theorem orderCalls_c9_3 : endsTrue 4 ((comp E1 73 orderCallsRest none).c (callX E1 2000) (fr2 ((9 + 1 : Nat) : Int) ((3 : Nat) : Int)) [] St0) = true := by kernel_rfl
theorem orderCalls_c8_3 : endsTrue 4 ((comp E1 73 orderCallsRest none).c (callX E1 2000) (fr2 ((8 + 1 : Nat) : Int) ((3 : Nat) : Int)) [] St0) = true := by kernel_rfl
theorem orderCalls_c7_5 : endsTrue 4 ((comp E1 73 orderCallsRest none).c (callX E1 2000) (fr2 ((7 + 1 : Nat) : Int) ((5 : Nat) : Int)) [] St0) = true := by kernel_rfl
theorem orderCalls_c5_1 : endsTrue 4 ((comp E1 73 orderCallsRest none).c (callX E1 2000) (fr2 ((5 + 1 : Nat) : Int) ((1 : Nat) : Int)) [] St0) = true := by kernel_rfl
theorem orderCalls_c5_7 : endsTrue 4 ((comp E1 73 orderCallsRest none).c (callX E1 2000) (fr2 ((5 + 1 : Nat) : Int) ((7 : Nat) : Int)) [] St0) = true := by kernel_rfl
theorem orderCalls_c1_3 : endsTrue 4 ((comp E1 73 orderCallsRest none).c (callX E1 2000) (fr2 ((1 + 1 : Nat) : Int) ((3 : Nat) : Int)) [] St0) = true := by kernel_rfl
end Go.Ax
