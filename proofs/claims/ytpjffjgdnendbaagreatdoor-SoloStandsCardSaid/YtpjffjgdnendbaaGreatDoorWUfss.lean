/-
  SoloStands: an instant of its unit, reckoned.
-/
import Derived.Test.YtpjffjgdnendbaaGreatDoorWUess
noncomputable section
namespace Go.Ax
open Go.RowKit Go.Proofs
set_option linter.unusedVariables false
set_option linter.unusedSimpArgs false
set_option maxRecDepth 100000

theorem ss_step_01 (v0 v1 v2 v3 v4 v5 v6 v8 v9 v10 v11 v12 v14 v15 v16 v17 v18 v19 v20 v22 v23 : Int) : seeR [2300, 2299, 2362] (callX E1 2000 11 [.ptr 2300 0, rowI 1 0 [(0)]] ⟨2363, T.set (T.set (T.set .leaf 2362 (some (.box ssMem))) 2299 (some (.box (ssP v0 v1 v2 v3 v4 v5 v6 (1) v8 v9 v10 v11 v12 (1) v14 v15 v16 v17 v18 v19 v20 (1) v22 v23)))) 2300 (some (.box ssObj))⟩) = some (rowI 0 0 [(2), v17], [some (.box ssObj), some (.box (ssP (0) (2) v17 (2) (1) (1) (1) (0) (0) (1) (2) (2) (2) (0) (0) (2) v17 (3) (3) (3) (3) (0) (0) (3))), some (.box ssMem)]) := by kernel_rfl
theorem ss_step_00 (v0 v1 v2 v3 v4 v5 v6 v8 v9 v10 v11 v12 v14 v15 v16 v17 v18 v19 v20 v22 v23 : Int) : seeR [2300, 2299, 2362] (callX E1 2000 11 [.ptr 2300 0, rowI 1 0 [(0)]] ⟨2363, T.set (T.set (T.set .leaf 2362 (some (.box ssMem))) 2299 (some (.box (ssP v0 v1 v2 v3 v4 v5 v6 (0) v8 v9 v10 v11 v12 (0) v14 v15 v16 v17 v18 v19 v20 (0) v22 v23)))) 2300 (some (.box ssObj))⟩) = some (rowI 0 0 [(wrap64R (addI (2) v15)), v17], [some (.box ssObj), some (.box (ssP (0) (wrap64R (addI (2) v15)) v17 (wrap64R (addI (2) v15)) (1) (wrap64R (addI (1) v9)) (wrap64R (addI (1) v9)) (0) v9 (wrap64R (addI (1) v9)) (2) (wrap64R (addI (2) v15)) (wrap64R (addI (2) v15)) (0) v15 (wrap64R (addI (2) v15)) v17 (wrap64R (addI (3) v23)) (3) (wrap64R (addI (3) v23)) (wrap64R (addI (3) v23)) (0) v23 (wrap64R (addI (3) v23)))), some (.box ssMem)]) := by kernel_rfl
theorem ss_step_11 (v0 v1 v2 v3 v4 v5 v6 v8 v9 v10 v11 v12 v14 v15 v16 v17 v18 v19 v20 v22 v23 : Int) : seeR [2300, 2299, 2362] (callX E1 2000 11 [.ptr 2300 0, rowI 1 0 [(1)]] ⟨2363, T.set (T.set (T.set .leaf 2362 (some (.box ssMem))) 2299 (some (.box (ssP v0 v1 v2 v3 v4 v5 v6 (1) v8 v9 v10 v11 v12 (1) v14 v15 v16 v17 v18 v19 v20 (1) v22 v23)))) 2300 (some (.box ssObj))⟩) = some (rowI 0 0 [(1), (0)], [some (.box ssObj), some (.box (ssP (1) (1) (0) (1) (1) (1) (1) (0) (0) (1) (2) (2) (2) (0) (0) (2) (0) (3) (3) (3) (3) (0) (0) (3))), some (.box ssMem)]) := by kernel_rfl
theorem ss_step_10 (v0 v1 v2 v3 v4 v5 v6 v8 v9 v10 v11 v12 v14 v15 v16 v17 v18 v19 v20 v22 v23 : Int) : seeR [2300, 2299, 2362] (callX E1 2000 11 [.ptr 2300 0, rowI 1 0 [(1)]] ⟨2363, T.set (T.set (T.set .leaf 2362 (some (.box ssMem))) 2299 (some (.box (ssP v0 v1 v2 v3 v4 v5 v6 (0) v8 v9 v10 v11 v12 (0) v14 v15 v16 v17 v18 v19 v20 (0) v22 v23)))) 2300 (some (.box ssObj))⟩) = some (rowI 0 0 [(wrap64R (addI (1) v9)), (0)], [some (.box ssObj), some (.box (ssP (1) (wrap64R (addI (1) v9)) (0) (wrap64R (addI (1) v9)) (1) (wrap64R (addI (1) v9)) (wrap64R (addI (1) v9)) (0) v9 (wrap64R (addI (1) v9)) (2) (wrap64R (addI (2) v15)) (wrap64R (addI (2) v15)) (0) v15 (wrap64R (addI (2) v15)) (0) (wrap64R (addI (3) v23)) (3) (wrap64R (addI (3) v23)) (wrap64R (addI (3) v23)) (0) v23 (wrap64R (addI (3) v23)))), some (.box ssMem)]) := by kernel_rfl
end Go.Ax
