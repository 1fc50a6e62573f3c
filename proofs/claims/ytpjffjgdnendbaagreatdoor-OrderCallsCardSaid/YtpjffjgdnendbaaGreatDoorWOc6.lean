/-
  Cases of OrderCalls, reckoned by the kernel.
-/
import Derived.Test.YtpjffjgdnendbaaGreatDoorWOw
namespace Go.Ax
set_option maxRecDepth 100000
theorem orderCalls_c9_6 : endsTrue 4 ((comp E1 73 orderCallsRest none).c (callX E1 2000) (fr2 ((9 + 1 : Nat) : Int) ((6 : Nat) : Int)) [] St0) = true := by kernel_rfl
theorem orderCalls_c8_6 : endsTrue 4 ((comp E1 73 orderCallsRest none).c (callX E1 2000) (fr2 ((8 + 1 : Nat) : Int) ((6 : Nat) : Int)) [] St0) = true := by kernel_rfl
theorem orderCalls_c7_8 : endsTrue 4 ((comp E1 73 orderCallsRest none).c (callX E1 2000) (fr2 ((7 + 1 : Nat) : Int) ((8 : Nat) : Int)) [] St0) = true := by kernel_rfl
theorem orderCalls_c5_4 : endsTrue 4 ((comp E1 73 orderCallsRest none).c (callX E1 2000) (fr2 ((5 + 1 : Nat) : Int) ((4 : Nat) : Int)) [] St0) = true := by kernel_rfl
theorem orderCalls_c4_2 : endsTrue 4 ((comp E1 73 orderCallsRest none).c (callX E1 2000) (fr2 ((4 + 1 : Nat) : Int) ((2 : Nat) : Int)) [] St0) = true := by kernel_rfl
theorem orderCalls_c2_2 : endsTrue 4 ((comp E1 73 orderCallsRest none).c (callX E1 2000) (fr2 ((2 + 1 : Nat) : Int) ((2 : Nat) : Int)) [] St0) = true := by kernel_rfl
end Go.Ax
