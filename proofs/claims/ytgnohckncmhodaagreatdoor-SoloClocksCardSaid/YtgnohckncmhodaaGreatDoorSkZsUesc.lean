/-
  SoloClocks: its unit, up to the loop.
-/
import Derived.Test.YtgnohckncmhodaaGreatDoorSkG10
set_option linter.unusedVariables false
set_option linter.unusedSimpArgs false
noncomputable section
namespace Go.Ax
open Go.RowKit Go.Proofs
set_option linter.unusedVariables false
set_option linter.unusedSimpArgs false
set_option maxRecDepth 100000
def scR3 : Code := match Tryz.f8.body with
  | some (.seq _ (.seq _ (.seq a _))) => a
  | _ => .skip
def scR4 : Code := match Tryz.f8.body with
  | some (.seq _ (.seq _ (.seq _ (.seq a _)))) => a
  | _ => .skip
def scRest : Code := match Tryz.f8.body with
  | some (.seq _ (.seq _ (.seq _ (.seq _ a)))) => a
  | _ => .skip
def scObj : List AV := [.v (.string ⟨#[]⟩), .v (.int .i64 (0)), .v (.int .i64 (0)), .sl 2948 0 1 [.v (.int .i64 (0))], .sl 2949 0 1 [.v (.int .i64 (1)), .v (.int .i64 (2))], .sl 3016 0 4 [.agg [.v (.string ⟨#[99, 111, 112, 121]⟩), .v (.int .i64 (5)), .sl 2953 0 3 [.agg [.v (.bool true), .v (.int .i64 (1)), .v (.int .i64 (0))]], .sl 2954 0 2 [.agg [.v (.int .i64 (0)), .v (.bool false)]]], .agg [.v (.string ⟨#[43]⟩), .v (.int .i64 (9)), .sl 2956 0 3 [.agg [.v (.bool false), .v (.int .i64 (0)), .v (.int .i64 (10))], .agg [.v (.bool false), .v (.int .i64 (0)), .v (.int .i64 (5))]], .sl 2957 0 2 [.agg [.v (.int .i64 (0)), .v (.bool false)]]], .agg [.v (.string ⟨#[105, 102]⟩), .v (.int .i64 (8)), .sl 2959 0 3 [.agg [.v (.bool false), .v (.int .i64 (0)), .v (.int .i64 (7))], .agg [.v (.bool false), .v (.int .i64 (0)), .v (.int .i64 (5))], .agg [.v (.bool false), .v (.int .i64 (0)), .v (.int .i64 (9))]], .sl 2960 0 2 [.agg [.v (.int .i64 (0)), .v (.bool false)]]], .agg [.v (.string ⟨#[99, 111, 112, 121]⟩), .v (.int .i64 (6)), .sl 2962 0 3 [.agg [.v (.bool false), .v (.int .i64 (0)), .v (.int .i64 (8))]], .sl 2963 0 2 [.agg [.v (.int .i64 (0)), .v (.bool false)]]], .agg [.v (.string ⟨#[99, 111, 112, 121]⟩), .v (.int .i64 (3)), .sl 2965 0 3 [.agg [.v (.bool false), .v (.int .i64 (0)), .v (.int .i64 (6))]], .sl 2966 0 2 [.agg [.v (.int .i64 (0)), .v (.bool false)]]], .agg [.v (.string ⟨#[99, 111, 112, 121]⟩), .v (.int .i64 (4)), .sl 2971 0 3 [.agg [.v (.bool false), .v (.int .i64 (0)), .v (.int .i64 (11))]], .sl 2972 0 2 [.agg [.v (.int .i64 (0)), .v (.bool true)]]], .agg [.v (.string ⟨#[43]⟩), .v (.int .i64 (12)), .sl 2968 0 3 [.agg [.v (.bool false), .v (.int .i64 (0)), .v (.int .i64 (4))], .agg [.v (.bool true), .v (.int .i64 (1)), .v (.int .i64 (0))]], .sl 2969 0 2 [.agg [.v (.int .i64 (0)), .v (.bool true)]]], .agg [.v (.string ⟨#[105, 102]⟩), .v (.int .i64 (14)), .sl 2974 0 3 [.agg [.v (.bool false), .v (.int .i64 (0)), .v (.int .i64 (13))], .agg [.v (.bool true), .v (.int .i64 (0)), .v (.int .i64 (0))], .agg [.v (.bool false), .v (.int .i64 (0)), .v (.int .i64 (15))]], .nils], .agg [.v (.string ⟨#[105, 102]⟩), .v (.int .i64 (16)), .sl 2976 0 3 [.agg [.v (.bool false), .v (.int .i64 (0)), .v (.int .i64 (0))], .agg [.v (.bool false), .v (.int .i64 (0)), .v (.int .i64 (3))], .agg [.v (.bool false), .v (.int .i64 (0)), .v (.int .i64 (14))]], .nils], .agg [.v (.string ⟨#[99, 111, 112, 121]⟩), .v (.int .i64 (1)), .sl 2978 0 3 [.agg [.v (.bool false), .v (.int .i64 (0)), .v (.int .i64 (16))]], .nils], .agg [.v (.string ⟨#[105, 102]⟩), .v (.int .i64 (18)), .sl 2980 0 3 [.agg [.v (.bool false), .v (.int .i64 (0)), .v (.int .i64 (17))], .agg [.v (.bool true), .v (.int .i64 (0)), .v (.int .i64 (0))], .agg [.v (.bool false), .v (.int .i64 (0)), .v (.int .i64 (19))]], .nils], .agg [.v (.string ⟨#[105, 102]⟩), .v (.int .i64 (20)), .sl 2982 0 3 [.agg [.v (.bool false), .v (.int .i64 (0)), .v (.int .i64 (0))], .agg [.v (.bool false), .v (.int .i64 (0)), .v (.int .i64 (18))], .agg [.v (.bool false), .v (.int .i64 (0)), .v (.int .i64 (4))]], .nils], .agg [.v (.string ⟨#[99, 111, 112, 121]⟩), .v (.int .i64 (2)), .sl 2984 0 3 [.agg [.v (.bool false), .v (.int .i64 (0)), .v (.int .i64 (20))]], .nils]], .bs 2951 0 7 6, .nils, .nils, .v (.int .i64 (0)), .bs 2995 0 21 1]
def scMem : List AV := [.v (.int .i64 (7)), .v (.int .i64 (1)), .v (.bool true), .v (.int .i64 (0)), .v (.int .i64 (0)), .sl 2986 0 2 [.agg [.v (.int .i64 (0)), .v (.bool false)]], .v (.int .i64 (10)), .v (.int .i64 (0)), .v (.bool false), .v (.int .i64 (0)), .v (.int .i64 (6)), .sl 2988 0 2 [.agg [.v (.int .i64 (0)), .v (.bool false)]], .v (.int .i64 (11)), .v (.int .i64 (0)), .v (.bool false), .v (.int .i64 (0)), .v (.int .i64 (12)), .sl 2990 0 2 [.agg [.v (.int .i64 (0)), .v (.bool true)]], .v (.int .i64 (13)), .v (.int .i64 (1)), .v (.bool true), .v (.int .i64 (0)), .v (.int .i64 (0)), .nils, .v (.int .i64 (15)), .v (.int .i64 (0)), .v (.bool false), .v (.int .i64 (0)), .v (.int .i64 (1)), .nils, .v (.int .i64 (17)), .v (.int .i64 (1)), .v (.bool true), .v (.int .i64 (0)), .v (.int .i64 (0)), .nils, .v (.int .i64 (19)), .v (.int .i64 (0)), .v (.bool false), .v (.int .i64 (0)), .v (.int .i64 (2)), .nils]
def scP (v0 v1 v2 v3 v4 v5 v6 v7 v8 v9 v10 v11 v12 v13 v14 v15 v16 v17 v18 v19 v20 : Int) : List AV := [i64A v0, i64A v1, i64A v2, i64A v3, i64A v4, i64A v5, i64A v6, i64A v7, i64A v8, i64A v9, i64A v10, i64A v11, i64A v12, i64A v13, i64A v14, i64A v15, i64A v16, i64A v17, i64A v18, i64A v19, i64A v20]
def scO1 (na : AV) : O := (comp E1 52 scR3 none).c (callX E1 2000) (frL [(0, na)]) [] St0
def scO2 (na : AV) : O := (comp E1 52 scR4 none).c (callX E1 2000) (outF (scO1 na)) [] (outS (scO1 na))
theorem scO1_ok (na : AV) : (lookO [] [0] (scO1 na)).isSome = true := by kernel_rfl
theorem scO2_ok (na : AV) : lookO [3003, 2995, 2951] [0, 5, 6] (scO2 na) = some (3017, [some na, some (.ptr 3003 0), some (.v (.bool true))], [some (.box scObj), some (.box (scP 0 0 0 0 0 0 0 1 0 0 0 0 0 1 0 0 0 1 0 0 0)), some (.box scMem)]) := by kernel_rfl
end Go.Ax
