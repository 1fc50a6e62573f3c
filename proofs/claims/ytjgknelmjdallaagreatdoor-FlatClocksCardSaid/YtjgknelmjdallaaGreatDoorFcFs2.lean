/-
  Cases of FlatClocks, reckoned by the kernel.
-/
import Derived.Test.YtjgknelmjdallaaGreatDoorFcFw2
namespace Go.Ax
set_option maxRecDepth 100000
theorem flatClocks_c7_3t : endsTrue 6 ((comp E2 145 flatClocksRest none).c (callX E2 2000) (fr3 ((7 + 1 : Nat) : Int) ((3 : Nat) : Int) true) [] St0) = true := by kernel_rfl
theorem flatClocks_c7_8f : endsTrue 6 ((comp E2 145 flatClocksRest none).c (callX E2 2000) (fr3 ((7 + 1 : Nat) : Int) ((8 : Nat) : Int) false) [] St0) = true := by kernel_rfl
theorem flatClocks_c6_6t : endsTrue 6 ((comp E2 145 flatClocksRest none).c (callX E2 2000) (fr3 ((6 + 1 : Nat) : Int) ((6 : Nat) : Int) true) [] St0) = true := by kernel_rfl
theorem flatClocks_c5_3f : endsTrue 6 ((comp E2 145 flatClocksRest none).c (callX E2 2000) (fr3 ((5 + 1 : Nat) : Int) ((3 : Nat) : Int) false) [] St0) = true := by kernel_rfl
theorem flatClocks_c4_3t : endsTrue 6 ((comp E2 145 flatClocksRest none).c (callX E2 2000) (fr3 ((4 + 1 : Nat) : Int) ((3 : Nat) : Int) true) [] St0) = true := by kernel_rfl
theorem flatClocks_c3_2f : endsTrue 6 ((comp E2 145 flatClocksRest none).c (callX E2 2000) (fr3 ((3 + 1 : Nat) : Int) ((2 : Nat) : Int) false) [] St0) = true := by kernel_rfl
theorem flatClocks_c1_0t : endsTrue 6 ((comp E2 145 flatClocksRest none).c (callX E2 2000) (fr3 ((1 + 1 : Nat) : Int) ((0 : Nat) : Int) true) [] St0) = true := by kernel_rfl
end Go.Ax
namespace Go.Ax
set_option maxRecDepth 100000
theorem flatClocks_c7_3f : endsTrue 6 ((comp E2 145 flatClocksRest none).c (callX E2 2000) (fr3 ((7 + 1 : Nat) : Int) ((3 : Nat) : Int) false) [] St0) = true := by kernel_rfl
theorem flatClocks_c7_8t : endsTrue 6 ((comp E2 145 flatClocksRest none).c (callX E2 2000) (fr3 ((7 + 1 : Nat) : Int) ((8 : Nat) : Int) true) [] St0) = true := by kernel_rfl
theorem flatClocks_c6_6f : endsTrue 6 ((comp E2 145 flatClocksRest none).c (callX E2 2000) (fr3 ((6 + 1 : Nat) : Int) ((6 : Nat) : Int) false) [] St0) = true := by kernel_rfl
theorem flatClocks_c5_3t : endsTrue 6 ((comp E2 145 flatClocksRest none).c (callX E2 2000) (fr3 ((5 + 1 : Nat) : Int) ((3 : Nat) : Int) true) [] St0) = true := by kernel_rfl
theorem flatClocks_c4_3f : endsTrue 6 ((comp E2 145 flatClocksRest none).c (callX E2 2000) (fr3 ((4 + 1 : Nat) : Int) ((3 : Nat) : Int) false) [] St0) = true := by kernel_rfl
theorem flatClocks_c3_2t : endsTrue 6 ((comp E2 145 flatClocksRest none).c (callX E2 2000) (fr3 ((3 + 1 : Nat) : Int) ((2 : Nat) : Int) true) [] St0) = true := by kernel_rfl
theorem flatClocks_c1_0f : endsTrue 6 ((comp E2 145 flatClocksRest none).c (callX E2 2000) (fr3 ((1 + 1 : Nat) : Int) ((0 : Nat) : Int) false) [] St0) = true := by kernel_rfl
end Go.Ax
namespace Go.Ax
set_option maxRecDepth 100000
theorem flatClocks_c7_4t : endsTrue 6 ((comp E2 145 flatClocksRest none).c (callX E2 2000) (fr3 ((7 + 1 : Nat) : Int) ((4 : Nat) : Int) true) [] St0) = true := by kernel_rfl
theorem flatClocks_c7_7f : endsTrue 6 ((comp E2 145 flatClocksRest none).c (callX E2 2000) (fr3 ((7 + 1 : Nat) : Int) ((7 : Nat) : Int) false) [] St0) = true := by kernel_rfl
theorem flatClocks_c6_7t : endsTrue 6 ((comp E2 145 flatClocksRest none).c (callX E2 2000) (fr3 ((6 + 1 : Nat) : Int) ((7 : Nat) : Int) true) [] St0) = true := by kernel_rfl
theorem flatClocks_c5_2f : endsTrue 6 ((comp E2 145 flatClocksRest none).c (callX E2 2000) (fr3 ((5 + 1 : Nat) : Int) ((2 : Nat) : Int) false) [] St0) = true := by kernel_rfl
theorem flatClocks_c4_4t : endsTrue 6 ((comp E2 145 flatClocksRest none).c (callX E2 2000) (fr3 ((4 + 1 : Nat) : Int) ((4 : Nat) : Int) true) [] St0) = true := by kernel_rfl
theorem flatClocks_c3_1f : endsTrue 6 ((comp E2 145 flatClocksRest none).c (callX E2 2000) (fr3 ((3 + 1 : Nat) : Int) ((1 : Nat) : Int) false) [] St0) = true := by kernel_rfl
theorem flatClocks_c1_1t : endsTrue 6 ((comp E2 145 flatClocksRest none).c (callX E2 2000) (fr3 ((1 + 1 : Nat) : Int) ((1 : Nat) : Int) true) [] St0) = true := by kernel_rfl
theorem flatClocks_c0_1f : endsTrue 6 ((comp E2 145 flatClocksRest none).c (callX E2 2000) (fr3 ((0 + 1 : Nat) : Int) ((1 : Nat) : Int) false) [] St0) = true := by kernel_rfl
end Go.Ax
