/-
  InitsCalls: true, whatever comes in.
-/
import Derived.Test.YtddjnjhhkffjgaaGreatDoorAxIc0
import Derived.Test.YtddjnjhhkffjgaaGreatDoorAxIc1
import Derived.Test.YtddjnjhhkffjgaaGreatDoorAxIc2
import Derived.Test.YtddjnjhhkffjgaaGreatDoorAxIc3
import Derived.Test.YtddjnjhhkffjgaaGreatDoorAxIc4
import Derived.Test.YtddjnjhhkffjgaaGreatDoorAxIc5
import Derived.Test.YtddjnjhhkffjgaaGreatDoorAxIc6
import Derived.Test.YtddjnjhhkffjgaaGreatDoorAxIc7
import Derived.Test.YtddjnjhhkffjgaaGreatDoorAxIc8
import Derived.Test.YtddjnjhhkffjgaaGreatDoorAxIc9
namespace Go.Ax
open Go.Proofs Go.RowKit
theorem initsCalls_cases0 : ∀ j : Nat, j < 2 → endsTrue 4 ((comp E1 60 initsCallsRest none).c (callX E1 2000) (fr2 0 j) [] St0) = true
  | 0, _ => initsCallsc0z0
  | 1, _ => initsCallsc0z1
  | j + 2, h => absurd h (by omega)
theorem initsCalls_cases1 : ∀ j : Nat, j < 3 → endsTrue 4 ((comp E1 60 initsCallsRest none).c (callX E1 2000) (fr2 1 j) [] St0) = true
  | 0, _ => initsCallsc1z0
  | 1, _ => initsCallsc1z1
  | 2, _ => initsCallsc1z2
  | j + 3, h => absurd h (by omega)
theorem initsCalls_cases2 : ∀ j : Nat, j < 4 → endsTrue 4 ((comp E1 60 initsCallsRest none).c (callX E1 2000) (fr2 2 j) [] St0) = true
  | 0, _ => initsCallsc2z0
  | 1, _ => initsCallsc2z1
  | 2, _ => initsCallsc2z2
  | 3, _ => initsCallsc2z3
  | j + 4, h => absurd h (by omega)
theorem initsCalls_cases3 : ∀ j : Nat, j < 5 → endsTrue 4 ((comp E1 60 initsCallsRest none).c (callX E1 2000) (fr2 3 j) [] St0) = true
  | 0, _ => initsCallsc3z0
  | 1, _ => initsCallsc3z1
  | 2, _ => initsCallsc3z2
  | 3, _ => initsCallsc3z3
  | 4, _ => initsCallsc3z4
  | j + 5, h => absurd h (by omega)
theorem initsCalls_cases4 : ∀ j : Nat, j < 6 → endsTrue 4 ((comp E1 60 initsCallsRest none).c (callX E1 2000) (fr2 4 j) [] St0) = true
  | 0, _ => initsCallsc4z0
  | 1, _ => initsCallsc4z1
  | 2, _ => initsCallsc4z2
  | 3, _ => initsCallsc4z3
  | 4, _ => initsCallsc4z4
  | 5, _ => initsCallsc4z5
  | j + 6, h => absurd h (by omega)
theorem initsCalls_cases5 : ∀ j : Nat, j < 7 → endsTrue 4 ((comp E1 60 initsCallsRest none).c (callX E1 2000) (fr2 5 j) [] St0) = true
  | 0, _ => initsCallsc5z0
  | 1, _ => initsCallsc5z1
  | 2, _ => initsCallsc5z2
  | 3, _ => initsCallsc5z3
  | 4, _ => initsCallsc5z4
  | 5, _ => initsCallsc5z5
  | 6, _ => initsCallsc5z6
  | j + 7, h => absurd h (by omega)
theorem initsCalls_cases6 : ∀ j : Nat, j < 8 → endsTrue 4 ((comp E1 60 initsCallsRest none).c (callX E1 2000) (fr2 6 j) [] St0) = true
  | 0, _ => initsCallsc6z0
  | 1, _ => initsCallsc6z1
  | 2, _ => initsCallsc6z2
  | 3, _ => initsCallsc6z3
  | 4, _ => initsCallsc6z4
  | 5, _ => initsCallsc6z5
  | 6, _ => initsCallsc6z6
  | 7, _ => initsCallsc6z7
  | j + 8, h => absurd h (by omega)
theorem initsCalls_cases7 : ∀ j : Nat, j < 9 → endsTrue 4 ((comp E1 60 initsCallsRest none).c (callX E1 2000) (fr2 7 j) [] St0) = true
  | 0, _ => initsCallsc7z0
  | 1, _ => initsCallsc7z1
  | 2, _ => initsCallsc7z2
  | 3, _ => initsCallsc7z3
  | 4, _ => initsCallsc7z4
  | 5, _ => initsCallsc7z5
  | 6, _ => initsCallsc7z6
  | 7, _ => initsCallsc7z7
  | 8, _ => initsCallsc7z8
  | j + 9, h => absurd h (by omega)
theorem initsCalls_cases8 : ∀ j : Nat, j < 10 → endsTrue 4 ((comp E1 60 initsCallsRest none).c (callX E1 2000) (fr2 8 j) [] St0) = true
  | 0, _ => initsCallsc8z0
  | 1, _ => initsCallsc8z1
  | 2, _ => initsCallsc8z2
  | 3, _ => initsCallsc8z3
  | 4, _ => initsCallsc8z4
  | 5, _ => initsCallsc8z5
  | 6, _ => initsCallsc8z6
  | 7, _ => initsCallsc8z7
  | 8, _ => initsCallsc8z8
  | 9, _ => initsCallsc8z9
  | j + 10, h => absurd h (by omega)
theorem initsCalls_cases9 : ∀ j : Nat, j < 11 → endsTrue 4 ((comp E1 60 initsCallsRest none).c (callX E1 2000) (fr2 9 j) [] St0) = true
  | 0, _ => initsCallsc9z0
  | 1, _ => initsCallsc9z1
  | 2, _ => initsCallsc9z2
  | 3, _ => initsCallsc9z3
  | 4, _ => initsCallsc9z4
  | 5, _ => initsCallsc9z5
  | 6, _ => initsCallsc9z6
  | 7, _ => initsCallsc9z7
  | 8, _ => initsCallsc9z8
  | 9, _ => initsCallsc9z9
  | 10, _ => initsCallsc9z10
  | j + 11, h => absurd h (by omega)
theorem initsCalls_cases10 : ∀ j : Nat, j < 12 → endsTrue 4 ((comp E1 60 initsCallsRest none).c (callX E1 2000) (fr2 10 j) [] St0) = true
  | 0, _ => initsCallsc10z0
  | 1, _ => initsCallsc10z1
  | 2, _ => initsCallsc10z2
  | 3, _ => initsCallsc10z3
  | 4, _ => initsCallsc10z4
  | 5, _ => initsCallsc10z5
  | 6, _ => initsCallsc10z6
  | 7, _ => initsCallsc10z7
  | 8, _ => initsCallsc10z8
  | 9, _ => initsCallsc10z9
  | 10, _ => initsCallsc10z10
  | 11, _ => initsCallsc10z11
  | j + 12, h => absurd h (by omega)
theorem initsCalls_cases11 : ∀ j : Nat, j < 13 → endsTrue 4 ((comp E1 60 initsCallsRest none).c (callX E1 2000) (fr2 11 j) [] St0) = true
  | 0, _ => initsCallsc11z0
  | 1, _ => initsCallsc11z1
  | 2, _ => initsCallsc11z2
  | 3, _ => initsCallsc11z3
  | 4, _ => initsCallsc11z4
  | 5, _ => initsCallsc11z5
  | 6, _ => initsCallsc11z6
  | 7, _ => initsCallsc11z7
  | 8, _ => initsCallsc11z8
  | 9, _ => initsCallsc11z9
  | 10, _ => initsCallsc11z10
  | 11, _ => initsCallsc11z11
  | 12, _ => initsCallsc11z12
  | j + 13, h => absurd h (by omega)
theorem initsCalls_cases12 : ∀ j : Nat, j < 14 → endsTrue 4 ((comp E1 60 initsCallsRest none).c (callX E1 2000) (fr2 12 j) [] St0) = true
  | 0, _ => initsCallsc12z0
  | 1, _ => initsCallsc12z1
  | 2, _ => initsCallsc12z2
  | 3, _ => initsCallsc12z3
  | 4, _ => initsCallsc12z4
  | 5, _ => initsCallsc12z5
  | 6, _ => initsCallsc12z6
  | 7, _ => initsCallsc12z7
  | 8, _ => initsCallsc12z8
  | 9, _ => initsCallsc12z9
  | 10, _ => initsCallsc12z10
  | 11, _ => initsCallsc12z11
  | 12, _ => initsCallsc12z12
  | 13, _ => initsCallsc12z13
  | j + 14, h => absurd h (by omega)
theorem initsCalls_cases : ∀ k : Nat, k < 13 → ∀ j : Nat, j < k + 2 → endsTrue 4 ((comp E1 60 initsCallsRest none).c (callX E1 2000) (fr2 k j) [] St0) = true
  | 0, _, j, h => initsCalls_cases0 j h
  | 1, _, j, h => initsCalls_cases1 j h
  | 2, _, j, h => initsCalls_cases2 j h
  | 3, _, j, h => initsCalls_cases3 j h
  | 4, _, j, h => initsCalls_cases4 j h
  | 5, _, j, h => initsCalls_cases5 j h
  | 6, _, j, h => initsCalls_cases6 j h
  | 7, _, j, h => initsCalls_cases7 j h
  | 8, _, j, h => initsCalls_cases8 j h
  | 9, _, j, h => initsCalls_cases9 j h
  | 10, _, j, h => initsCalls_cases10 j h
  | 11, _, j, h => initsCalls_cases11 j h
  | 12, _, j, h => initsCalls_cases12 j h
  | k + 13, h, _, _ => absurd h (by omega)
theorem initsCalls_any (n m : Int) (w : World) : Calls Tryz.prog 7 #[.int .i64 n, .int .i64 m] w fun x w' => x = .returned (.bool true) ∧ Below w.heap.size w w' := initsCalls_walk initsCalls_cases n m w
end Go.Ax
