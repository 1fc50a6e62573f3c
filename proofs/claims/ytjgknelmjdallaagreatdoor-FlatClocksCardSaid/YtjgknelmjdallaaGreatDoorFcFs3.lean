/-
  Cases of FlatClocks, reckoned by the kernel.
-/
import Derived.Test.YtjgknelmjdallaaGreatDoorFcFw2
namespace Go.Ax
set_option maxRecDepth 100000
theorem flatClocks_c7_4f : endsTrue 6 ((comp E2 145 flatClocksRest none).c (callX E2 2000) (fr3 ((7 + 1 : Nat) : Int) ((4 : Nat) : Int) false) [] St0) = true := by kernel_rfl
theorem flatClocks_c7_7t : endsTrue 6 ((comp E2 145 flatClocksRest none).c (callX E2 2000) (fr3 ((7 + 1 : Nat) : Int) ((7 : Nat) : Int) true) [] St0) = true := by kernel_rfl
theorem flatClocks_c6_7f : endsTrue 6 ((comp E2 145 flatClocksRest none).c (callX E2 2000) (fr3 ((6 + 1 : Nat) : Int) ((7 : Nat) : Int) false) [] St0) = true := by kernel_rfl
theorem flatClocks_c5_2t : endsTrue 6 ((comp E2 145 flatClocksRest none).c (callX E2 2000) (fr3 ((5 + 1 : Nat) : Int) ((2 : Nat) : Int) true) [] St0) = true := by kernel_rfl
theorem flatClocks_c4_4f : endsTrue 6 ((comp E2 145 flatClocksRest none).c (callX E2 2000) (fr3 ((4 + 1 : Nat) : Int) ((4 : Nat) : Int) false) [] St0) = true := by kernel_rfl
theorem flatClocks_c3_1t : endsTrue 6 ((comp E2 145 flatClocksRest none).c (callX E2 2000) (fr3 ((3 + 1 : Nat) : Int) ((1 : Nat) : Int) true) [] St0) = true := by kernel_rfl
theorem flatClocks_c1_1f : endsTrue 6 ((comp E2 145 flatClocksRest none).c (callX E2 2000) (fr3 ((1 + 1 : Nat) : Int) ((1 : Nat) : Int) false) [] St0) = true := by kernel_rfl
theorem flatClocks_c0_1t : endsTrue 6 ((comp E2 145 flatClocksRest none).c (callX E2 2000) (fr3 ((0 + 1 : Nat) : Int) ((1 : Nat) : Int) true) [] St0) = true := by kernel_rfl
end Go.Ax
namespace Go.Ax
set_option maxRecDepth 100000
theorem flatClocks_c7_5t : endsTrue 6 ((comp E2 145 flatClocksRest none).c (callX E2 2000) (fr3 ((7 + 1 : Nat) : Int) ((5 : Nat) : Int) true) [] St0) = true := by kernel_rfl
theorem flatClocks_c7_6f : endsTrue 6 ((comp E2 145 flatClocksRest none).c (callX E2 2000) (fr3 ((7 + 1 : Nat) : Int) ((6 : Nat) : Int) false) [] St0) = true := by kernel_rfl
theorem flatClocks_c5_0t : endsTrue 6 ((comp E2 145 flatClocksRest none).c (callX E2 2000) (fr3 ((5 + 1 : Nat) : Int) ((0 : Nat) : Int) true) [] St0) = true := by kernel_rfl
theorem flatClocks_c5_1f : endsTrue 6 ((comp E2 145 flatClocksRest none).c (callX E2 2000) (fr3 ((5 + 1 : Nat) : Int) ((1 : Nat) : Int) false) [] St0) = true := by kernel_rfl
theorem flatClocks_c4_5t : endsTrue 6 ((comp E2 145 flatClocksRest none).c (callX E2 2000) (fr3 ((4 + 1 : Nat) : Int) ((5 : Nat) : Int) true) [] St0) = true := by kernel_rfl
theorem flatClocks_c3_0f : endsTrue 6 ((comp E2 145 flatClocksRest none).c (callX E2 2000) (fr3 ((3 + 1 : Nat) : Int) ((0 : Nat) : Int) false) [] St0) = true := by kernel_rfl
theorem flatClocks_c1_2t : endsTrue 6 ((comp E2 145 flatClocksRest none).c (callX E2 2000) (fr3 ((1 + 1 : Nat) : Int) ((2 : Nat) : Int) true) [] St0) = true := by kernel_rfl
theorem flatClocks_c0_0f : endsTrue 6 ((comp E2 145 flatClocksRest none).c (callX E2 2000) (fr3 ((0 + 1 : Nat) : Int) ((0 : Nat) : Int) false) [] St0) = true := by kernel_rfl
end Go.Ax
namespace Go.Ax
set_option maxRecDepth 100000
theorem flatClocks_c7_5f : endsTrue 6 ((comp E2 145 flatClocksRest none).c (callX E2 2000) (fr3 ((7 + 1 : Nat) : Int) ((5 : Nat) : Int) false) [] St0) = true := by kernel_rfl
theorem flatClocks_c7_6t : endsTrue 6 ((comp E2 145 flatClocksRest none).c (callX E2 2000) (fr3 ((7 + 1 : Nat) : Int) ((6 : Nat) : Int) true) [] St0) = true := by kernel_rfl
theorem flatClocks_c5_0f : endsTrue 6 ((comp E2 145 flatClocksRest none).c (callX E2 2000) (fr3 ((5 + 1 : Nat) : Int) ((0 : Nat) : Int) false) [] St0) = true := by kernel_rfl
theorem flatClocks_c5_1t : endsTrue 6 ((comp E2 145 flatClocksRest none).c (callX E2 2000) (fr3 ((5 + 1 : Nat) : Int) ((1 : Nat) : Int) true) [] St0) = true := by kernel_rfl
theorem flatClocks_c4_5f : endsTrue 6 ((comp E2 145 flatClocksRest none).c (callX E2 2000) (fr3 ((4 + 1 : Nat) : Int) ((5 : Nat) : Int) false) [] St0) = true := by kernel_rfl
theorem flatClocks_c3_0t : endsTrue 6 ((comp E2 145 flatClocksRest none).c (callX E2 2000) (fr3 ((3 + 1 : Nat) : Int) ((0 : Nat) : Int) true) [] St0) = true := by kernel_rfl
theorem flatClocks_c1_2f : endsTrue 6 ((comp E2 145 flatClocksRest none).c (callX E2 2000) (fr3 ((1 + 1 : Nat) : Int) ((2 : Nat) : Int) false) [] St0) = true := by kernel_rfl
theorem flatClocks_c0_0t : endsTrue 6 ((comp E2 145 flatClocksRest none).c (callX E2 2000) (fr3 ((0 + 1 : Nat) : Int) ((0 : Nat) : Int) true) [] St0) = true := by kernel_rfl
end Go.Ax
