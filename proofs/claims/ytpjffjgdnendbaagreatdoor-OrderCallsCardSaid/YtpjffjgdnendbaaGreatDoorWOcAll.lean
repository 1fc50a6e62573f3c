/-
  OrderCalls: true, whatever comes in.
-/
import Derived.Test.YtpjffjgdnendbaaGreatDoorWOc0
import Derived.Test.YtpjffjgdnendbaaGreatDoorWOc1
import Derived.Test.YtpjffjgdnendbaaGreatDoorWOc2
import Derived.Test.YtpjffjgdnendbaaGreatDoorWOc3
import Derived.Test.YtpjffjgdnendbaaGreatDoorWOc4
import Derived.Test.YtpjffjgdnendbaaGreatDoorWOc5
import Derived.Test.YtpjffjgdnendbaaGreatDoorWOc6
import Derived.Test.YtpjffjgdnendbaaGreatDoorWOc7
import Derived.Test.YtpjffjgdnendbaaGreatDoorWOc8
import Derived.Test.YtpjffjgdnendbaaGreatDoorWOc9
import Derived.Test.YtpjffjgdnendbaaGreatDoorWOc10
import Derived.Test.YtpjffjgdnendbaaGreatDoorWOc11
namespace Go.Ax
open Go.Proofs Go.RowKit
set_option maxRecDepth 100000
theorem orderCalls_k0 : ∀ j : Nat, j < 3 → endsTrue 4 ((comp E1 73 orderCallsRest none).c (callX E1 2000) (fr2 ((0 + 1 : Nat) : Int) (j : Int)) [] St0) = true
  | 0, _ => orderCalls_c0_0
  | 1, _ => orderCalls_c0_1
  | 2, _ => orderCalls_c0_2
  | j + 3, h => absurd h (by omega)
theorem orderCalls_k1 : ∀ j : Nat, j < 4 → endsTrue 4 ((comp E1 73 orderCallsRest none).c (callX E1 2000) (fr2 ((1 + 1 : Nat) : Int) (j : Int)) [] St0) = true
  | 0, _ => orderCalls_c1_0
  | 1, _ => orderCalls_c1_1
  | 2, _ => orderCalls_c1_2
  | 3, _ => orderCalls_c1_3
  | j + 4, h => absurd h (by omega)
theorem orderCalls_k2 : ∀ j : Nat, j < 5 → endsTrue 4 ((comp E1 73 orderCallsRest none).c (callX E1 2000) (fr2 ((2 + 1 : Nat) : Int) (j : Int)) [] St0) = true
  | 0, _ => orderCalls_c2_0
  | 1, _ => orderCalls_c2_1
  | 2, _ => orderCalls_c2_2
  | 3, _ => orderCalls_c2_3
  | 4, _ => orderCalls_c2_4
  | j + 5, h => absurd h (by omega)
theorem orderCalls_k3 : ∀ j : Nat, j < 6 → endsTrue 4 ((comp E1 73 orderCallsRest none).c (callX E1 2000) (fr2 ((3 + 1 : Nat) : Int) (j : Int)) [] St0) = true
  | 0, _ => orderCalls_c3_0
  | 1, _ => orderCalls_c3_1
  | 2, _ => orderCalls_c3_2
  | 3, _ => orderCalls_c3_3
  | 4, _ => orderCalls_c3_4
  | 5, _ => orderCalls_c3_5
  | j + 6, h => absurd h (by omega)
theorem orderCalls_k4 : ∀ j : Nat, j < 7 → endsTrue 4 ((comp E1 73 orderCallsRest none).c (callX E1 2000) (fr2 ((4 + 1 : Nat) : Int) (j : Int)) [] St0) = true
  | 0, _ => orderCalls_c4_0
  | 1, _ => orderCalls_c4_1
  | 2, _ => orderCalls_c4_2
  | 3, _ => orderCalls_c4_3
  | 4, _ => orderCalls_c4_4
  | 5, _ => orderCalls_c4_5
  | 6, _ => orderCalls_c4_6
  | j + 7, h => absurd h (by omega)
theorem orderCalls_k5 : ∀ j : Nat, j < 8 → endsTrue 4 ((comp E1 73 orderCallsRest none).c (callX E1 2000) (fr2 ((5 + 1 : Nat) : Int) (j : Int)) [] St0) = true
  | 0, _ => orderCalls_c5_0
  | 1, _ => orderCalls_c5_1
  | 2, _ => orderCalls_c5_2
  | 3, _ => orderCalls_c5_3
  | 4, _ => orderCalls_c5_4
  | 5, _ => orderCalls_c5_5
  | 6, _ => orderCalls_c5_6
  | 7, _ => orderCalls_c5_7
  | j + 8, h => absurd h (by omega)
theorem orderCalls_k6 : ∀ j : Nat, j < 9 → endsTrue 4 ((comp E1 73 orderCallsRest none).c (callX E1 2000) (fr2 ((6 + 1 : Nat) : Int) (j : Int)) [] St0) = true
  | 0, _ => orderCalls_c6_0
  | 1, _ => orderCalls_c6_1
  | 2, _ => orderCalls_c6_2
  | 3, _ => orderCalls_c6_3
  | 4, _ => orderCalls_c6_4
  | 5, _ => orderCalls_c6_5
  | 6, _ => orderCalls_c6_6
  | 7, _ => orderCalls_c6_7
  | 8, _ => orderCalls_c6_8
  | j + 9, h => absurd h (by omega)
theorem orderCalls_k7 : ∀ j : Nat, j < 10 → endsTrue 4 ((comp E1 73 orderCallsRest none).c (callX E1 2000) (fr2 ((7 + 1 : Nat) : Int) (j : Int)) [] St0) = true
  | 0, _ => orderCalls_c7_0
  | 1, _ => orderCalls_c7_1
  | 2, _ => orderCalls_c7_2
  | 3, _ => orderCalls_c7_3
  | 4, _ => orderCalls_c7_4
  | 5, _ => orderCalls_c7_5
  | 6, _ => orderCalls_c7_6
  | 7, _ => orderCalls_c7_7
  | 8, _ => orderCalls_c7_8
  | 9, _ => orderCalls_c7_9
  | j + 10, h => absurd h (by omega)
theorem orderCalls_k8 : ∀ j : Nat, j < 11 → endsTrue 4 ((comp E1 73 orderCallsRest none).c (callX E1 2000) (fr2 ((8 + 1 : Nat) : Int) (j : Int)) [] St0) = true
  | 0, _ => orderCalls_c8_0
  | 1, _ => orderCalls_c8_1
  | 2, _ => orderCalls_c8_2
  | 3, _ => orderCalls_c8_3
  | 4, _ => orderCalls_c8_4
  | 5, _ => orderCalls_c8_5
  | 6, _ => orderCalls_c8_6
  | 7, _ => orderCalls_c8_7
  | 8, _ => orderCalls_c8_8
  | 9, _ => orderCalls_c8_9
  | 10, _ => orderCalls_c8_10
  | j + 11, h => absurd h (by omega)
theorem orderCalls_k9 : ∀ j : Nat, j < 12 → endsTrue 4 ((comp E1 73 orderCallsRest none).c (callX E1 2000) (fr2 ((9 + 1 : Nat) : Int) (j : Int)) [] St0) = true
  | 0, _ => orderCalls_c9_0
  | 1, _ => orderCalls_c9_1
  | 2, _ => orderCalls_c9_2
  | 3, _ => orderCalls_c9_3
  | 4, _ => orderCalls_c9_4
  | 5, _ => orderCalls_c9_5
  | 6, _ => orderCalls_c9_6
  | 7, _ => orderCalls_c9_7
  | 8, _ => orderCalls_c9_8
  | 9, _ => orderCalls_c9_9
  | 10, _ => orderCalls_c9_10
  | 11, _ => orderCalls_c9_11
  | j + 12, h => absurd h (by omega)
theorem orderCalls_cases : ∀ k : Nat, k < 10 → ∀ j : Nat, j < k + 3 → endsTrue 4 ((comp E1 73 orderCallsRest none).c (callX E1 2000) (fr2 ((k + 1 : Nat) : Int) (j : Int)) [] St0) = true
  | 0, _ => orderCalls_k0
  | 1, _ => orderCalls_k1
  | 2, _ => orderCalls_k2
  | 3, _ => orderCalls_k3
  | 4, _ => orderCalls_k4
  | 5, _ => orderCalls_k5
  | 6, _ => orderCalls_k6
  | 7, _ => orderCalls_k7
  | 8, _ => orderCalls_k8
  | 9, _ => orderCalls_k9
  | k + 10, h => absurd h (by omega)
theorem orderCalls_any (n m : Int) (w : World) : Calls Tryz.prog 6 #[.int .i64 n, .int .i64 m] w fun x w' => x = .returned (.bool true) ∧ Below w.heap.size w w' := orderCalls_walk orderCalls_cases n m w
end Go.Ax
