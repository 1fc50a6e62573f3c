/-
  FlatDoubles: true, whatever comes in.
-/
import Derived.Test.YtjgknelmjdallaaGreatDoorFdFr0
import Derived.Test.YtjgknelmjdallaaGreatDoorFdFr7
import Derived.Test.YtjgknelmjdallaaGreatDoorFdFr8
import Derived.Test.YtjgknelmjdallaaGreatDoorFdFr9
import Derived.Test.YtjgknelmjdallaaGreatDoorFdFr10
import Derived.Test.YtjgknelmjdallaaGreatDoorFdFr11
import Derived.Test.YtjgknelmjdallaaGreatDoorFdFr12
namespace Go.Ax
open Go.Proofs Go.RowKit
set_option maxRecDepth 100000
theorem flatDoubles_cases : ∀ k : Nat, k < 12 → GoodFd k
  | 0, _ => goodFd_of e1_ok e1_intr rfl rfl fkS1
  | 1, _ => goodFd_of e1_ok e1_intr rfl rfl fkS2
  | 2, _ => goodFd_of e1_ok e1_intr rfl rfl fkS3
  | 3, _ => goodFd_of e1_ok e1_intr rfl rfl fkS4
  | 4, _ => goodFd_of e1_ok e1_intr rfl rfl fkS5
  | 5, _ => goodFd_of e1_ok e1_intr rfl rfl fkS6
  | 6, _ => goodFd_of fkE7_snd.1 fkE7_snd.2 rfl rfl fkE7_case
  | 7, _ => goodFd_of fkE8_snd.1 fkE8_snd.2 rfl rfl fkE8_case
  | 8, _ => goodFd_of fkE9_snd.1 fkE9_snd.2 rfl rfl fkE9_case
  | 9, _ => goodFd_of fkE10_snd.1 fkE10_snd.2 rfl rfl fkE10_case
  | 10, _ => goodFd_of fkE11_snd.1 fkE11_snd.2 rfl rfl fkE11_case
  | 11, _ => goodFd_of fkE12_snd.1 fkE12_snd.2 rfl rfl fkE12_case
  | k + 12, h => absurd h (by omega)
theorem flatDoubles_any (n : Int) (w : World) : Calls Tryz.prog 10 #[.int .i64 n] w fun x w' => x = .returned (.bool true) ∧ Below w.heap.size w w' := flatDoubles_walk flatDoubles_cases n w
end Go.Ax
