/-
  ParseDeep: true, whatever comes in.
-/
import Derived.Test.YtddjnjhhkffjgaaGreatDoorAxDc0
import Derived.Test.YtddjnjhhkffjgaaGreatDoorAxDc1
import Derived.Test.YtddjnjhhkffjgaaGreatDoorAxDc2
import Derived.Test.YtddjnjhhkffjgaaGreatDoorAxDc3
import Derived.Test.YtddjnjhhkffjgaaGreatDoorAxDc4
import Derived.Test.YtddjnjhhkffjgaaGreatDoorAxDc5
import Derived.Test.YtddjnjhhkffjgaaGreatDoorAxDc6
import Derived.Test.YtddjnjhhkffjgaaGreatDoorAxDc7
import Derived.Test.YtddjnjhhkffjgaaGreatDoorAxDc8
import Derived.Test.YtddjnjhhkffjgaaGreatDoorAxDc9
import Derived.Test.YtddjnjhhkffjgaaGreatDoorAxDc10
import Derived.Test.YtddjnjhhkffjgaaGreatDoorAxDc11
namespace Go.Ax
open Go.Proofs Go.RowKit
theorem parseDeep_cases : ∀ k : Nat, k < 60 → ∀ b, endsTrue 4 ((comp E1 61 parseDeepRest none).c (callX E1 2000) (fr k b) [] St0) = true
  | 0, _, true => parseDeepc0t
  | 0, _, false => parseDeepc0f
  | 1, _, true => parseDeepc1t
  | 1, _, false => parseDeepc1f
  | 2, _, true => parseDeepc2t
  | 2, _, false => parseDeepc2f
  | 3, _, true => parseDeepc3t
  | 3, _, false => parseDeepc3f
  | 4, _, true => parseDeepc4t
  | 4, _, false => parseDeepc4f
  | 5, _, true => parseDeepc5t
  | 5, _, false => parseDeepc5f
  | 6, _, true => parseDeepc6t
  | 6, _, false => parseDeepc6f
  | 7, _, true => parseDeepc7t
  | 7, _, false => parseDeepc7f
  | 8, _, true => parseDeepc8t
  | 8, _, false => parseDeepc8f
  | 9, _, true => parseDeepc9t
  | 9, _, false => parseDeepc9f
  | 10, _, true => parseDeepc10t
  | 10, _, false => parseDeepc10f
  | 11, _, true => parseDeepc11t
  | 11, _, false => parseDeepc11f
  | 12, _, true => parseDeepc12t
  | 12, _, false => parseDeepc12f
  | 13, _, true => parseDeepc13t
  | 13, _, false => parseDeepc13f
  | 14, _, true => parseDeepc14t
  | 14, _, false => parseDeepc14f
  | 15, _, true => parseDeepc15t
  | 15, _, false => parseDeepc15f
  | 16, _, true => parseDeepc16t
  | 16, _, false => parseDeepc16f
  | 17, _, true => parseDeepc17t
  | 17, _, false => parseDeepc17f
  | 18, _, true => parseDeepc18t
  | 18, _, false => parseDeepc18f
  | 19, _, true => parseDeepc19t
  | 19, _, false => parseDeepc19f
  | 20, _, true => parseDeepc20t
  | 20, _, false => parseDeepc20f
  | 21, _, true => parseDeepc21t
  | 21, _, false => parseDeepc21f
  | 22, _, true => parseDeepc22t
  | 22, _, false => parseDeepc22f
  | 23, _, true => parseDeepc23t
  | 23, _, false => parseDeepc23f
  | 24, _, true => parseDeepc24t
  | 24, _, false => parseDeepc24f
  | 25, _, true => parseDeepc25t
  | 25, _, false => parseDeepc25f
  | 26, _, true => parseDeepc26t
  | 26, _, false => parseDeepc26f
  | 27, _, true => parseDeepc27t
  | 27, _, false => parseDeepc27f
  | 28, _, true => parseDeepc28t
  | 28, _, false => parseDeepc28f
  | 29, _, true => parseDeepc29t
  | 29, _, false => parseDeepc29f
  | 30, _, true => parseDeepc30t
  | 30, _, false => parseDeepc30f
  | 31, _, true => parseDeepc31t
  | 31, _, false => parseDeepc31f
  | 32, _, true => parseDeepc32t
  | 32, _, false => parseDeepc32f
  | 33, _, true => parseDeepc33t
  | 33, _, false => parseDeepc33f
  | 34, _, true => parseDeepc34t
  | 34, _, false => parseDeepc34f
  | 35, _, true => parseDeepc35t
  | 35, _, false => parseDeepc35f
  | 36, _, true => parseDeepc36t
  | 36, _, false => parseDeepc36f
  | 37, _, true => parseDeepc37t
  | 37, _, false => parseDeepc37f
  | 38, _, true => parseDeepc38t
  | 38, _, false => parseDeepc38f
  | 39, _, true => parseDeepc39t
  | 39, _, false => parseDeepc39f
  | 40, _, true => parseDeepc40t
  | 40, _, false => parseDeepc40f
  | 41, _, true => parseDeepc41t
  | 41, _, false => parseDeepc41f
  | 42, _, true => parseDeepc42t
  | 42, _, false => parseDeepc42f
  | 43, _, true => parseDeepc43t
  | 43, _, false => parseDeepc43f
  | 44, _, true => parseDeepc44t
  | 44, _, false => parseDeepc44f
  | 45, _, true => parseDeepc45t
  | 45, _, false => parseDeepc45f
  | 46, _, true => parseDeepc46t
  | 46, _, false => parseDeepc46f
  | 47, _, true => parseDeepc47t
  | 47, _, false => parseDeepc47f
  | 48, _, true => parseDeepc48t
  | 48, _, false => parseDeepc48f
  | 49, _, true => parseDeepc49t
  | 49, _, false => parseDeepc49f
  | 50, _, true => parseDeepc50t
  | 50, _, false => parseDeepc50f
  | 51, _, true => parseDeepc51t
  | 51, _, false => parseDeepc51f
  | 52, _, true => parseDeepc52t
  | 52, _, false => parseDeepc52f
  | 53, _, true => parseDeepc53t
  | 53, _, false => parseDeepc53f
  | 54, _, true => parseDeepc54t
  | 54, _, false => parseDeepc54f
  | 55, _, true => parseDeepc55t
  | 55, _, false => parseDeepc55f
  | 56, _, true => parseDeepc56t
  | 56, _, false => parseDeepc56f
  | 57, _, true => parseDeepc57t
  | 57, _, false => parseDeepc57f
  | 58, _, true => parseDeepc58t
  | 58, _, false => parseDeepc58f
  | 59, _, true => parseDeepc59t
  | 59, _, false => parseDeepc59f
  | k + 60, h, _ => absurd h (by omega)
theorem parseDeep_any (n : Int) (b : Bool) (w : World) : Calls Tryz.prog 3 #[.int .i64 n, .bool b] w fun x w' => x = .returned (.bool true) ∧ Below w.heap.size w w' := parseDeep_walk parseDeep_cases n b w
end Go.Ax
