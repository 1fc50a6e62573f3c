/-
  SoloStands: its unit, up to the loop.
-/
import Derived.Test.YtgnohckncmhodaaGreatDoorSlG10
set_option linter.unusedVariables false
set_option linter.unusedSimpArgs false
noncomputable section
namespace Go.Ax
open Go.RowKit Go.Proofs
set_option linter.unusedVariables false
set_option linter.unusedSimpArgs false
set_option maxRecDepth 100000
def ssR3 : Code := match Tryz.f9.body with
  | some (.seq _ (.seq _ (.seq a _))) => a
  | _ => .skip
def ssR4 : Code := match Tryz.f9.body with
  | some (.seq _ (.seq _ (.seq _ (.seq a _)))) => a
  | _ => .skip
def ssRest : Code := match Tryz.f9.body with
  | some (.seq _ (.seq _ (.seq _ (.seq _ a)))) => a
  | _ => .skip
def ssObj : List AV := [.v (.string ⟨#[]⟩), .v (.int .i64 (0)), .v (.int .i64 (0)), .sl 2298 0 1 [.v (.int .i64 (0))], .sl 2299 0 1 [.v (.int .i64 (1)), .v (.int .i64 (2))], .sl 2365 0 4 [.agg [.v (.string ⟨#[99, 111, 112, 121]⟩), .v (.int .i64 (4)), .sl 2303 0 3 [.agg [.v (.bool true), .v (.int .i64 (1)), .v (.int .i64 (0))]], .nils], .agg [.v (.string ⟨#[105, 102]⟩), .v (.int .i64 (8)), .sl 2305 0 3 [.agg [.v (.bool false), .v (.int .i64 (0)), .v (.int .i64 (7))], .agg [.v (.bool true), .v (.int .i64 (0)), .v (.int .i64 (0))], .agg [.v (.bool false), .v (.int .i64 (0)), .v (.int .i64 (9))]], .nils], .agg [.v (.string ⟨#[43]⟩), .v (.int .i64 (6)), .sl 2307 0 3 [.agg [.v (.bool false), .v (.int .i64 (0)), .v (.int .i64 (4))], .agg [.v (.bool false), .v (.int .i64 (0)), .v (.int .i64 (8))]], .nils], .agg [.v (.string ⟨#[99, 111, 112, 121]⟩), .v (.int .i64 (5)), .sl 2309 0 3 [.agg [.v (.bool false), .v (.int .i64 (0)), .v (.int .i64 (6))]], .nils], .agg [.v (.string ⟨#[99, 111, 112, 121]⟩), .v (.int .i64 (10)), .sl 2311 0 3 [.agg [.v (.bool true), .v (.int .i64 (2)), .v (.int .i64 (0))]], .nils], .agg [.v (.string ⟨#[105, 102]⟩), .v (.int .i64 (14)), .sl 2313 0 3 [.agg [.v (.bool false), .v (.int .i64 (0)), .v (.int .i64 (13))], .agg [.v (.bool true), .v (.int .i64 (0)), .v (.int .i64 (0))], .agg [.v (.bool false), .v (.int .i64 (0)), .v (.int .i64 (15))]], .nils], .agg [.v (.string ⟨#[43]⟩), .v (.int .i64 (12)), .sl 2315 0 3 [.agg [.v (.bool false), .v (.int .i64 (0)), .v (.int .i64 (10))], .agg [.v (.bool false), .v (.int .i64 (0)), .v (.int .i64 (14))]], .nils], .agg [.v (.string ⟨#[99, 111, 112, 121]⟩), .v (.int .i64 (11)), .sl 2317 0 3 [.agg [.v (.bool false), .v (.int .i64 (0)), .v (.int .i64 (12))]], .nils], .agg [.v (.string ⟨#[105, 102]⟩), .v (.int .i64 (3)), .sl 2319 0 3 [.agg [.v (.bool false), .v (.int .i64 (0)), .v (.int .i64 (0))], .agg [.v (.bool false), .v (.int .i64 (0)), .v (.int .i64 (5))], .agg [.v (.bool false), .v (.int .i64 (0)), .v (.int .i64 (11))]], .nils], .agg [.v (.string ⟨#[99, 111, 112, 121]⟩), .v (.int .i64 (1)), .sl 2321 0 3 [.agg [.v (.bool false), .v (.int .i64 (0)), .v (.int .i64 (3))]], .nils], .agg [.v (.string ⟨#[99, 111, 112, 121]⟩), .v (.int .i64 (18)), .sl 2323 0 3 [.agg [.v (.bool true), .v (.int .i64 (3)), .v (.int .i64 (0))]], .nils], .agg [.v (.string ⟨#[105, 102]⟩), .v (.int .i64 (22)), .sl 2325 0 3 [.agg [.v (.bool false), .v (.int .i64 (0)), .v (.int .i64 (21))], .agg [.v (.bool true), .v (.int .i64 (0)), .v (.int .i64 (0))], .agg [.v (.bool false), .v (.int .i64 (0)), .v (.int .i64 (23))]], .nils], .agg [.v (.string ⟨#[43]⟩), .v (.int .i64 (20)), .sl 2327 0 3 [.agg [.v (.bool false), .v (.int .i64 (0)), .v (.int .i64 (18))], .agg [.v (.bool false), .v (.int .i64 (0)), .v (.int .i64 (22))]], .nils], .agg [.v (.string ⟨#[99, 111, 112, 121]⟩), .v (.int .i64 (19)), .sl 2329 0 3 [.agg [.v (.bool false), .v (.int .i64 (0)), .v (.int .i64 (20))]], .nils], .agg [.v (.string ⟨#[105, 102]⟩), .v (.int .i64 (16)), .sl 2331 0 3 [.agg [.v (.bool false), .v (.int .i64 (0)), .v (.int .i64 (0))], .agg [.v (.bool true), .v (.int .i64 (0)), .v (.int .i64 (0))], .agg [.v (.bool false), .v (.int .i64 (0)), .v (.int .i64 (17))]], .nils], .agg [.v (.string ⟨#[99, 111, 112, 121]⟩), .v (.int .i64 (2)), .sl 2333 0 3 [.agg [.v (.bool false), .v (.int .i64 (0)), .v (.int .i64 (16))]], .nils]], .bs 2301 0 7 6, .nils, .nils, .v (.int .i64 (0)), .bs 2341 0 24 1]
def ssMem : List AV := [.v (.int .i64 (7)), .v (.int .i64 (1)), .v (.bool true), .v (.int .i64 (0)), .v (.int .i64 (0)), .nils, .v (.int .i64 (9)), .v (.int .i64 (0)), .v (.bool false), .v (.int .i64 (0)), .v (.int .i64 (5)), .nils, .v (.int .i64 (13)), .v (.int .i64 (1)), .v (.bool true), .v (.int .i64 (0)), .v (.int .i64 (0)), .nils, .v (.int .i64 (15)), .v (.int .i64 (0)), .v (.bool false), .v (.int .i64 (0)), .v (.int .i64 (11)), .nils, .v (.int .i64 (17)), .v (.int .i64 (7)), .v (.bool false), .v (.int .i64 (0)), .v (.int .i64 (19)), .nils, .v (.int .i64 (21)), .v (.int .i64 (1)), .v (.bool true), .v (.int .i64 (0)), .v (.int .i64 (0)), .nils, .v (.int .i64 (23)), .v (.int .i64 (0)), .v (.bool false), .v (.int .i64 (0)), .v (.int .i64 (19)), .nils]
def ssP (v0 v1 v2 v3 v4 v5 v6 v7 v8 v9 v10 v11 v12 v13 v14 v15 v16 v17 v18 v19 v20 v21 v22 v23 : Int) : List AV := [i64A v0, i64A v1, i64A v2, i64A v3, i64A v4, i64A v5, i64A v6, i64A v7, i64A v8, i64A v9, i64A v10, i64A v11, i64A v12, i64A v13, i64A v14, i64A v15, i64A v16, i64A v17, i64A v18, i64A v19, i64A v20, i64A v21, i64A v22, i64A v23]
def ssO1 (na : AV) : O := (comp E1 59 ssR3 none).c (callX E1 2000) (frL [(0, na)]) [] St0
def ssO2 (na : AV) : O := (comp E1 59 ssR4 none).c (callX E1 2000) (outF (ssO1 na)) [] (outS (ssO1 na))
theorem ssO1_ok (na : AV) : (lookO [] [0] (ssO1 na)).isSome = true := by kernel_rfl
theorem ssO2_ok (na : AV) : lookO [2349, 2341, 2301] [0, 5, 6] (ssO2 na) = some (2366, [some na, some (.ptr 2349 0), some (.v (.bool true))], [some (.box ssObj), some (.box (ssP 0 0 0 0 0 0 0 1 0 0 0 0 0 1 0 0 0 7 0 0 0 1 0 0)), some (.box ssMem)]) := by kernel_rfl
end Go.Ax
