/-
  FlatClocks: true, whatever comes in.
-/
import Derived.Test.YtjgknelmjdallaaGreatDoorFcFs0
import Derived.Test.YtjgknelmjdallaaGreatDoorFcFs1
import Derived.Test.YtjgknelmjdallaaGreatDoorFcFs2
import Derived.Test.YtjgknelmjdallaaGreatDoorFcFs3
namespace Go.Ax
open Go.Proofs Go.RowKit
set_option maxRecDepth 100000
theorem flatClocks_k0 : ∀ j : Nat, j < 2 → ∀ b, endsTrue 6 ((comp E2 145 flatClocksRest none).c (callX E2 2000) (fr3 ((0 + 1 : Nat) : Int) (j : Int) b) [] St0) = true
  | 0, _, true => flatClocks_c0_0t
  | 0, _, false => flatClocks_c0_0f
  | 1, _, true => flatClocks_c0_1t
  | 1, _, false => flatClocks_c0_1f
  | j + 2, h, _ => absurd h (by omega)
theorem flatClocks_k1 : ∀ j : Nat, j < 3 → ∀ b, endsTrue 6 ((comp E2 145 flatClocksRest none).c (callX E2 2000) (fr3 ((1 + 1 : Nat) : Int) (j : Int) b) [] St0) = true
  | 0, _, true => flatClocks_c1_0t
  | 0, _, false => flatClocks_c1_0f
  | 1, _, true => flatClocks_c1_1t
  | 1, _, false => flatClocks_c1_1f
  | 2, _, true => flatClocks_c1_2t
  | 2, _, false => flatClocks_c1_2f
  | j + 3, h, _ => absurd h (by omega)
theorem flatClocks_k2 : ∀ j : Nat, j < 4 → ∀ b, endsTrue 6 ((comp E2 145 flatClocksRest none).c (callX E2 2000) (fr3 ((2 + 1 : Nat) : Int) (j : Int) b) [] St0) = true
  | 0, _, true => flatClocks_c2_0t
  | 0, _, false => flatClocks_c2_0f
  | 1, _, true => flatClocks_c2_1t
  | 1, _, false => flatClocks_c2_1f
  | 2, _, true => flatClocks_c2_2t
  | 2, _, false => flatClocks_c2_2f
  | 3, _, true => flatClocks_c2_3t
  | 3, _, false => flatClocks_c2_3f
  | j + 4, h, _ => absurd h (by omega)
theorem flatClocks_k3 : ∀ j : Nat, j < 5 → ∀ b, endsTrue 6 ((comp E2 145 flatClocksRest none).c (callX E2 2000) (fr3 ((3 + 1 : Nat) : Int) (j : Int) b) [] St0) = true
  | 0, _, true => flatClocks_c3_0t
  | 0, _, false => flatClocks_c3_0f
  | 1, _, true => flatClocks_c3_1t
  | 1, _, false => flatClocks_c3_1f
  | 2, _, true => flatClocks_c3_2t
  | 2, _, false => flatClocks_c3_2f
  | 3, _, true => flatClocks_c3_3t
  | 3, _, false => flatClocks_c3_3f
  | 4, _, true => flatClocks_c3_4t
  | 4, _, false => flatClocks_c3_4f
  | j + 5, h, _ => absurd h (by omega)
theorem flatClocks_k4 : ∀ j : Nat, j < 6 → ∀ b, endsTrue 6 ((comp E2 145 flatClocksRest none).c (callX E2 2000) (fr3 ((4 + 1 : Nat) : Int) (j : Int) b) [] St0) = true
  | 0, _, true => flatClocks_c4_0t
  | 0, _, false => flatClocks_c4_0f
  | 1, _, true => flatClocks_c4_1t
  | 1, _, false => flatClocks_c4_1f
  | 2, _, true => flatClocks_c4_2t
  | 2, _, false => flatClocks_c4_2f
  | 3, _, true => flatClocks_c4_3t
  | 3, _, false => flatClocks_c4_3f
  | 4, _, true => flatClocks_c4_4t
  | 4, _, false => flatClocks_c4_4f
  | 5, _, true => flatClocks_c4_5t
  | 5, _, false => flatClocks_c4_5f
  | j + 6, h, _ => absurd h (by omega)
theorem flatClocks_k5 : ∀ j : Nat, j < 7 → ∀ b, endsTrue 6 ((comp E2 145 flatClocksRest none).c (callX E2 2000) (fr3 ((5 + 1 : Nat) : Int) (j : Int) b) [] St0) = true
  | 0, _, true => flatClocks_c5_0t
  | 0, _, false => flatClocks_c5_0f
  | 1, _, true => flatClocks_c5_1t
  | 1, _, false => flatClocks_c5_1f
  | 2, _, true => flatClocks_c5_2t
  | 2, _, false => flatClocks_c5_2f
  | 3, _, true => flatClocks_c5_3t
  | 3, _, false => flatClocks_c5_3f
  | 4, _, true => flatClocks_c5_4t
  | 4, _, false => flatClocks_c5_4f
  | 5, _, true => flatClocks_c5_5t
  | 5, _, false => flatClocks_c5_5f
  | 6, _, true => flatClocks_c5_6t
  | 6, _, false => flatClocks_c5_6f
  | j + 7, h, _ => absurd h (by omega)
theorem flatClocks_k6 : ∀ j : Nat, j < 8 → ∀ b, endsTrue 6 ((comp E2 145 flatClocksRest none).c (callX E2 2000) (fr3 ((6 + 1 : Nat) : Int) (j : Int) b) [] St0) = true
  | 0, _, true => flatClocks_c6_0t
  | 0, _, false => flatClocks_c6_0f
  | 1, _, true => flatClocks_c6_1t
  | 1, _, false => flatClocks_c6_1f
  | 2, _, true => flatClocks_c6_2t
  | 2, _, false => flatClocks_c6_2f
  | 3, _, true => flatClocks_c6_3t
  | 3, _, false => flatClocks_c6_3f
  | 4, _, true => flatClocks_c6_4t
  | 4, _, false => flatClocks_c6_4f
  | 5, _, true => flatClocks_c6_5t
  | 5, _, false => flatClocks_c6_5f
  | 6, _, true => flatClocks_c6_6t
  | 6, _, false => flatClocks_c6_6f
  | 7, _, true => flatClocks_c6_7t
  | 7, _, false => flatClocks_c6_7f
  | j + 8, h, _ => absurd h (by omega)
theorem flatClocks_k7 : ∀ j : Nat, j < 9 → ∀ b, endsTrue 6 ((comp E2 145 flatClocksRest none).c (callX E2 2000) (fr3 ((7 + 1 : Nat) : Int) (j : Int) b) [] St0) = true
  | 0, _, true => flatClocks_c7_0t
  | 0, _, false => flatClocks_c7_0f
  | 1, _, true => flatClocks_c7_1t
  | 1, _, false => flatClocks_c7_1f
  | 2, _, true => flatClocks_c7_2t
  | 2, _, false => flatClocks_c7_2f
  | 3, _, true => flatClocks_c7_3t
  | 3, _, false => flatClocks_c7_3f
  | 4, _, true => flatClocks_c7_4t
  | 4, _, false => flatClocks_c7_4f
  | 5, _, true => flatClocks_c7_5t
  | 5, _, false => flatClocks_c7_5f
  | 6, _, true => flatClocks_c7_6t
  | 6, _, false => flatClocks_c7_6f
  | 7, _, true => flatClocks_c7_7t
  | 7, _, false => flatClocks_c7_7f
  | 8, _, true => flatClocks_c7_8t
  | 8, _, false => flatClocks_c7_8f
  | j + 9, h, _ => absurd h (by omega)
theorem flatClocks_cases : ∀ k : Nat, k < 8 → ∀ j : Nat, j < k + 2 → ∀ b, endsTrue 6 ((comp E2 145 flatClocksRest none).c (callX E2 2000) (fr3 ((k + 1 : Nat) : Int) (j : Int) b) [] St0) = true
  | 0, _ => flatClocks_k0
  | 1, _ => flatClocks_k1
  | 2, _ => flatClocks_k2
  | 3, _ => flatClocks_k3
  | 4, _ => flatClocks_k4
  | 5, _ => flatClocks_k5
  | 6, _ => flatClocks_k6
  | 7, _ => flatClocks_k7
  | k + 8, h => absurd h (by omega)
theorem flatClocks_any (n m : Int) (b : Bool) (w : World) : Calls Tryz.prog 11 #[.int .i64 n, .int .i64 m, .bool b] w fun x w' => x = .returned (.bool true) ∧ Below w.heap.size w w' := flatClocks_walk flatClocks_cases n m b w
end Go.Ax
