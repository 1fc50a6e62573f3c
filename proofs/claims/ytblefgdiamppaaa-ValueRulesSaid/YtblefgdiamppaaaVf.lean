/-
  ValueRules, walked.
-/
import Derived.Test.YtblefgdiamppaaaVc
namespace Go.Proofs.Ytblefgdiamppaaa
open Go.ChangeShapes Go.WideShapes Go.ChangeAt Go.RowKit
set_option linter.unusedVariables false
set_option linter.unusedSimpArgs false
set_option maxRecDepth 20000
theorem dist_eq (a b c : Int) : wrap64 (wrap64 (a * b) + wrap64 (a * c)) = wrap64 (a * wrap64 (b + c)) := by
  have e3 : ∃ q, wrap64 (b + c) = b + c + 18446744073709551616 * q := ⟨(wrap64 (b + c) - (b + c)) / 18446744073709551616, by unfold wrap64; omega⟩
  obtain ⟨q, hq⟩ := e3
  rw [hq, Int.mul_add, Int.mul_add, Int.mul_left_comm]
  generalize a * b = x
  generalize a * c = y
  generalize a * q = z
  unfold wrap64; omega
end Go.Proofs.Ytblefgdiamppaaa
