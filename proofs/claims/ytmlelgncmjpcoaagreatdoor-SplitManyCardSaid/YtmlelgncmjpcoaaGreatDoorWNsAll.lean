/-
  SplitMany: true, whatever comes in.
-/
import Derived.Test.YtmlelgncmjpcoaaGreatDoorWNs0
import Derived.Test.YtmlelgncmjpcoaaGreatDoorWNs1
import Derived.Test.YtmlelgncmjpcoaaGreatDoorWNs2
import Derived.Test.YtmlelgncmjpcoaaGreatDoorWNs3
import Derived.Test.YtmlelgncmjpcoaaGreatDoorWNs4
import Derived.Test.YtmlelgncmjpcoaaGreatDoorWNs5
namespace Go.Ax
open Go.Proofs Go.RowKit
theorem splitMany_cases : ∀ k : Nat, k < 6 → GoodSm k
  | 0, _ => splitMany_c0
  | 1, _ => splitMany_c1
  | 2, _ => splitMany_c2
  | 3, _ => splitMany_c3
  | 4, _ => splitMany_c4
  | 5, _ => splitMany_c5
  | k + 6, h => absurd h (by omega)
theorem splitMany_any (n : Int) (w : World) : Calls Tryz.prog 3 #[.int .i64 n] w fun x w' => x = .returned (.bool true) ∧ Below w.heap.size w w' := splitMany_walk splitMany_cases n w
end Go.Ax
