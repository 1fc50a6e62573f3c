/-
  TypesRight: true, whatever comes in.
-/
import Derived.Test.YtddjnjhhkffjgaaGreatDoorAxTr0
import Derived.Test.YtddjnjhhkffjgaaGreatDoorAxTr1
import Derived.Test.YtddjnjhhkffjgaaGreatDoorAxTr2
import Derived.Test.YtddjnjhhkffjgaaGreatDoorAxTr3
import Derived.Test.YtddjnjhhkffjgaaGreatDoorAxTr4
import Derived.Test.YtddjnjhhkffjgaaGreatDoorAxTr5
import Derived.Test.YtddjnjhhkffjgaaGreatDoorAxTr6
import Derived.Test.YtddjnjhhkffjgaaGreatDoorAxTr7
import Derived.Test.YtddjnjhhkffjgaaGreatDoorAxTr8
import Derived.Test.YtddjnjhhkffjgaaGreatDoorAxTr9
namespace Go.Ax
open Go.Proofs Go.RowKit
set_option maxRecDepth 100000
theorem typesRight_casesttt : ∀ (k : Nat), k < 12 → endsTrue 8 ((comp E1 81 typesRightRest none).c (callX E1 2000) (frT true true true k) [] St0) = true
  | 0, _ => typesRightcttt0
  | 1, _ => typesRightcttt1
  | 2, _ => typesRightcttt2
  | 3, _ => typesRightcttt3
  | 4, _ => typesRightcttt4
  | 5, _ => typesRightcttt5
  | 6, _ => typesRightcttt6
  | 7, _ => typesRightcttt7
  | 8, _ => typesRightcttt8
  | 9, _ => typesRightcttt9
  | 10, _ => typesRightcttt10
  | 11, _ => typesRightcttt11
  | k + 12, h => absurd h (by omega)
theorem typesRight_casesttf : ∀ (k : Nat), k < 12 → endsTrue 8 ((comp E1 81 typesRightRest none).c (callX E1 2000) (frT true true false k) [] St0) = true
  | 0, _ => typesRightcttf0
  | 1, _ => typesRightcttf1
  | 2, _ => typesRightcttf2
  | 3, _ => typesRightcttf3
  | 4, _ => typesRightcttf4
  | 5, _ => typesRightcttf5
  | 6, _ => typesRightcttf6
  | 7, _ => typesRightcttf7
  | 8, _ => typesRightcttf8
  | 9, _ => typesRightcttf9
  | 10, _ => typesRightcttf10
  | 11, _ => typesRightcttf11
  | k + 12, h => absurd h (by omega)
theorem typesRight_casestft : ∀ (k : Nat), k < 12 → endsTrue 8 ((comp E1 81 typesRightRest none).c (callX E1 2000) (frT true false true k) [] St0) = true
  | 0, _ => typesRightctft0
  | 1, _ => typesRightctft1
  | 2, _ => typesRightctft2
  | 3, _ => typesRightctft3
  | 4, _ => typesRightctft4
  | 5, _ => typesRightctft5
  | 6, _ => typesRightctft6
  | 7, _ => typesRightctft7
  | 8, _ => typesRightctft8
  | 9, _ => typesRightctft9
  | 10, _ => typesRightctft10
  | 11, _ => typesRightctft11
  | k + 12, h => absurd h (by omega)
theorem typesRight_casestff : ∀ (k : Nat), k < 12 → endsTrue 8 ((comp E1 81 typesRightRest none).c (callX E1 2000) (frT true false false k) [] St0) = true
  | 0, _ => typesRightctff0
  | 1, _ => typesRightctff1
  | 2, _ => typesRightctff2
  | 3, _ => typesRightctff3
  | 4, _ => typesRightctff4
  | 5, _ => typesRightctff5
  | 6, _ => typesRightctff6
  | 7, _ => typesRightctff7
  | 8, _ => typesRightctff8
  | 9, _ => typesRightctff9
  | 10, _ => typesRightctff10
  | 11, _ => typesRightctff11
  | k + 12, h => absurd h (by omega)
theorem typesRight_casesftt : ∀ (k : Nat), k < 12 → endsTrue 8 ((comp E1 81 typesRightRest none).c (callX E1 2000) (frT false true true k) [] St0) = true
  | 0, _ => typesRightcftt0
  | 1, _ => typesRightcftt1
  | 2, _ => typesRightcftt2
  | 3, _ => typesRightcftt3
  | 4, _ => typesRightcftt4
  | 5, _ => typesRightcftt5
  | 6, _ => typesRightcftt6
  | 7, _ => typesRightcftt7
  | 8, _ => typesRightcftt8
  | 9, _ => typesRightcftt9
  | 10, _ => typesRightcftt10
  | 11, _ => typesRightcftt11
  | k + 12, h => absurd h (by omega)
theorem typesRight_casesftf : ∀ (k : Nat), k < 12 → endsTrue 8 ((comp E1 81 typesRightRest none).c (callX E1 2000) (frT false true false k) [] St0) = true
  | 0, _ => typesRightcftf0
  | 1, _ => typesRightcftf1
  | 2, _ => typesRightcftf2
  | 3, _ => typesRightcftf3
  | 4, _ => typesRightcftf4
  | 5, _ => typesRightcftf5
  | 6, _ => typesRightcftf6
  | 7, _ => typesRightcftf7
  | 8, _ => typesRightcftf8
  | 9, _ => typesRightcftf9
  | 10, _ => typesRightcftf10
  | 11, _ => typesRightcftf11
  | k + 12, h => absurd h (by omega)
theorem typesRight_casesfft : ∀ (k : Nat), k < 12 → endsTrue 8 ((comp E1 81 typesRightRest none).c (callX E1 2000) (frT false false true k) [] St0) = true
  | 0, _ => typesRightcfft0
  | 1, _ => typesRightcfft1
  | 2, _ => typesRightcfft2
  | 3, _ => typesRightcfft3
  | 4, _ => typesRightcfft4
  | 5, _ => typesRightcfft5
  | 6, _ => typesRightcfft6
  | 7, _ => typesRightcfft7
  | 8, _ => typesRightcfft8
  | 9, _ => typesRightcfft9
  | 10, _ => typesRightcfft10
  | 11, _ => typesRightcfft11
  | k + 12, h => absurd h (by omega)
theorem typesRight_casesfff : ∀ (k : Nat), k < 12 → endsTrue 8 ((comp E1 81 typesRightRest none).c (callX E1 2000) (frT false false false k) [] St0) = true
  | 0, _ => typesRightcfff0
  | 1, _ => typesRightcfff1
  | 2, _ => typesRightcfff2
  | 3, _ => typesRightcfff3
  | 4, _ => typesRightcfff4
  | 5, _ => typesRightcfff5
  | 6, _ => typesRightcfff6
  | 7, _ => typesRightcfff7
  | 8, _ => typesRightcfff8
  | 9, _ => typesRightcfff9
  | 10, _ => typesRightcfff10
  | 11, _ => typesRightcfff11
  | k + 12, h => absurd h (by omega)
theorem typesRight_cases : ∀ (a b y : Bool) (k : Nat), k < 12 → endsTrue 8 ((comp E1 81 typesRightRest none).c (callX E1 2000) (frT a b y k) [] St0) = true
  | true, true, true, k, h => typesRight_casesttt k h
  | true, true, false, k, h => typesRight_casesttf k h
  | true, false, true, k, h => typesRight_casestft k h
  | true, false, false, k, h => typesRight_casestff k h
  | false, true, true, k, h => typesRight_casesftt k h
  | false, true, false, k, h => typesRight_casesftf k h
  | false, false, true, k, h => typesRight_casesfft k h
  | false, false, false, k, h => typesRight_casesfff k h
theorem typesRight_any (a b y : Bool) (n : Int) (w : World) : Calls Tryz.prog 4 #[.bool a, .bool b, .bool y, .int .i64 n] w fun x w' => x = .returned (.bool true) ∧ Below w.heap.size w w' := typesRight_walk typesRight_cases a b y n w
end Go.Ax
