/-
  Cases of FlatClocks, reckoned by the kernel.
-/
import Derived.Test.YtjgknelmjdallaaGreatDoorFcFw2
namespace Go.Ax
set_option maxRecDepth 100000
theorem flatClocks_c7_1f : endsTrue 6 ((comp E2 145 flatClocksRest none).c (callX E2 2000) (fr3 ((7 + 1 : Nat) : Int) ((1 : Nat) : Int) false) [] St0) = true := by kernel_rfl
theorem flatClocks_c6_1t : endsTrue 6 ((comp E2 145 flatClocksRest none).c (callX E2 2000) (fr3 ((6 + 1 : Nat) : Int) ((1 : Nat) : Int) true) [] St0) = true := by kernel_rfl
theorem flatClocks_c6_4f : endsTrue 6 ((comp E2 145 flatClocksRest none).c (callX E2 2000) (fr3 ((6 + 1 : Nat) : Int) ((4 : Nat) : Int) false) [] St0) = true := by kernel_rfl
theorem flatClocks_c5_5t : endsTrue 6 ((comp E2 145 flatClocksRest none).c (callX E2 2000) (fr3 ((5 + 1 : Nat) : Int) ((5 : Nat) : Int) true) [] St0) = true := by kernel_rfl
theorem flatClocks_c4_1f : endsTrue 6 ((comp E2 145 flatClocksRest none).c (callX E2 2000) (fr3 ((4 + 1 : Nat) : Int) ((1 : Nat) : Int) false) [] St0) = true := by kernel_rfl
theorem flatClocks_c3_4t : endsTrue 6 ((comp E2 145 flatClocksRest none).c (callX E2 2000) (fr3 ((3 + 1 : Nat) : Int) ((4 : Nat) : Int) true) [] St0) = true := by kernel_rfl
theorem flatClocks_c2_2f : endsTrue 6 ((comp E2 145 flatClocksRest none).c (callX E2 2000) (fr3 ((2 + 1 : Nat) : Int) ((2 : Nat) : Int) false) [] St0) = true := by kernel_rfl
end Go.Ax
namespace Go.Ax
set_option maxRecDepth 100000
theorem flatClocks_c7_2t : endsTrue 6 ((comp E2 145 flatClocksRest none).c (callX E2 2000) (fr3 ((7 + 1 : Nat) : Int) ((2 : Nat) : Int) true) [] St0) = true := by kernel_rfl
theorem flatClocks_c6_0f : endsTrue 6 ((comp E2 145 flatClocksRest none).c (callX E2 2000) (fr3 ((6 + 1 : Nat) : Int) ((0 : Nat) : Int) false) [] St0) = true := by kernel_rfl
theorem flatClocks_c6_5t : endsTrue 6 ((comp E2 145 flatClocksRest none).c (callX E2 2000) (fr3 ((6 + 1 : Nat) : Int) ((5 : Nat) : Int) true) [] St0) = true := by kernel_rfl
theorem flatClocks_c5_4f : endsTrue 6 ((comp E2 145 flatClocksRest none).c (callX E2 2000) (fr3 ((5 + 1 : Nat) : Int) ((4 : Nat) : Int) false) [] St0) = true := by kernel_rfl
theorem flatClocks_c4_2t : endsTrue 6 ((comp E2 145 flatClocksRest none).c (callX E2 2000) (fr3 ((4 + 1 : Nat) : Int) ((2 : Nat) : Int) true) [] St0) = true := by kernel_rfl
theorem flatClocks_c3_3f : endsTrue 6 ((comp E2 145 flatClocksRest none).c (callX E2 2000) (fr3 ((3 + 1 : Nat) : Int) ((3 : Nat) : Int) false) [] St0) = true := by kernel_rfl
theorem flatClocks_c2_3t : endsTrue 6 ((comp E2 145 flatClocksRest none).c (callX E2 2000) (fr3 ((2 + 1 : Nat) : Int) ((3 : Nat) : Int) true) [] St0) = true := by kernel_rfl
end Go.Ax
namespace Go.Ax
set_option maxRecDepth 100000
theorem flatClocks_c7_2f : endsTrue 6 ((comp E2 145 flatClocksRest none).c (callX E2 2000) (fr3 ((7 + 1 : Nat) : Int) ((2 : Nat) : Int) false) [] St0) = true := by kernel_rfl
theorem flatClocks_c6_0t : endsTrue 6 ((comp E2 145 flatClocksRest none).c (callX E2 2000) (fr3 ((6 + 1 : Nat) : Int) ((0 : Nat) : Int) true) [] St0) = true := by kernel_rfl
theorem flatClocks_c6_5f : endsTrue 6 ((comp E2 145 flatClocksRest none).c (callX E2 2000) (fr3 ((6 + 1 : Nat) : Int) ((5 : Nat) : Int) false) [] St0) = true := by kernel_rfl
theorem flatClocks_c5_4t : endsTrue 6 ((comp E2 145 flatClocksRest none).c (callX E2 2000) (fr3 ((5 + 1 : Nat) : Int) ((4 : Nat) : Int) true) [] St0) = true := by kernel_rfl
theorem flatClocks_c4_2f : endsTrue 6 ((comp E2 145 flatClocksRest none).c (callX E2 2000) (fr3 ((4 + 1 : Nat) : Int) ((2 : Nat) : Int) false) [] St0) = true := by kernel_rfl
theorem flatClocks_c3_3t : endsTrue 6 ((comp E2 145 flatClocksRest none).c (callX E2 2000) (fr3 ((3 + 1 : Nat) : Int) ((3 : Nat) : Int) true) [] St0) = true := by kernel_rfl
theorem flatClocks_c2_3f : endsTrue 6 ((comp E2 145 flatClocksRest none).c (callX E2 2000) (fr3 ((2 + 1 : Nat) : Int) ((3 : Nat) : Int) false) [] St0) = true := by kernel_rfl
end Go.Ax
