/-
  InitsArrows: true, whatever comes in.
-/
import Derived.Test.YtddjnjhhkffjgaaGreatDoorAxIa0
import Derived.Test.YtddjnjhhkffjgaaGreatDoorAxIa1
import Derived.Test.YtddjnjhhkffjgaaGreatDoorAxIa2
import Derived.Test.YtddjnjhhkffjgaaGreatDoorAxIa3
namespace Go.Ax
open Go.Proofs Go.RowKit
theorem initsArrows_cases : ∀ k : Nat, k < 20 → ∀ b, endsTrue 4 ((comp E1 44 initsArrowsRest none).c (callX E1 2000) (fr k b) [] St0) = true
  | 0, _, true => initsArrowsc0t
  | 0, _, false => initsArrowsc0f
  | 1, _, true => initsArrowsc1t
  | 1, _, false => initsArrowsc1f
  | 2, _, true => initsArrowsc2t
  | 2, _, false => initsArrowsc2f
  | 3, _, true => initsArrowsc3t
  | 3, _, false => initsArrowsc3f
  | 4, _, true => initsArrowsc4t
  | 4, _, false => initsArrowsc4f
  | 5, _, true => initsArrowsc5t
  | 5, _, false => initsArrowsc5f
  | 6, _, true => initsArrowsc6t
  | 6, _, false => initsArrowsc6f
  | 7, _, true => initsArrowsc7t
  | 7, _, false => initsArrowsc7f
  | 8, _, true => initsArrowsc8t
  | 8, _, false => initsArrowsc8f
  | 9, _, true => initsArrowsc9t
  | 9, _, false => initsArrowsc9f
  | 10, _, true => initsArrowsc10t
  | 10, _, false => initsArrowsc10f
  | 11, _, true => initsArrowsc11t
  | 11, _, false => initsArrowsc11f
  | 12, _, true => initsArrowsc12t
  | 12, _, false => initsArrowsc12f
  | 13, _, true => initsArrowsc13t
  | 13, _, false => initsArrowsc13f
  | 14, _, true => initsArrowsc14t
  | 14, _, false => initsArrowsc14f
  | 15, _, true => initsArrowsc15t
  | 15, _, false => initsArrowsc15f
  | 16, _, true => initsArrowsc16t
  | 16, _, false => initsArrowsc16f
  | 17, _, true => initsArrowsc17t
  | 17, _, false => initsArrowsc17f
  | 18, _, true => initsArrowsc18t
  | 18, _, false => initsArrowsc18f
  | 19, _, true => initsArrowsc19t
  | 19, _, false => initsArrowsc19f
  | k + 20, h, _ => absurd h (by omega)
theorem initsArrows_any (n : Int) (b : Bool) (w : World) : Calls Tryz.prog 6 #[.int .i64 n, .bool b] w fun x w' => x = .returned (.bool true) ∧ Below w.heap.size w w' := initsArrows_walk initsArrows_cases n b w
end Go.Ax
