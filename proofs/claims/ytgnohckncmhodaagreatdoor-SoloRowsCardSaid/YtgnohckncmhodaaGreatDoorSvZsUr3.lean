/-
  SoloRows with 3 delays: its unit, an instant of it.
-/
import Derived.Test.YtgnohckncmhodaaGreatDoorSvG10
set_option linter.unusedVariables false
set_option linter.unusedSimpArgs false
set_option maxHeartbeats 16000000
noncomputable section
namespace Go.Ax
open Go.RowKit Go.Proofs
set_option linter.unusedVariables false
set_option linter.unusedSimpArgs false
set_option maxRecDepth 100000
def sr3Obj : List AV := [.v (.string ⟨#[]⟩), .v (.int .i64 (0)), .v (.int .i64 (0)), .sl 1201 0 1 [.v (.int .i64 (0)), .v (.int .i64 (1))], .sl 1202 0 1 [.v (.int .i64 (2)), .v (.int .i64 (3))], .sl 1221 0 4 [.agg [.v (.string ⟨#[43]⟩), .v (.int .i64 (7)), .sl 1206 0 3 [.agg [.v (.bool false), .v (.int .i64 (0)), .v (.int .i64 (0))], .agg [.v (.bool false), .v (.int .i64 (0)), .v (.int .i64 (1))]], .nils], .agg [.v (.string ⟨#[99, 111, 112, 121]⟩), .v (.int .i64 (2)), .sl 1208 0 3 [.agg [.v (.bool false), .v (.int .i64 (0)), .v (.int .i64 (4))]], .nils], .agg [.v (.string ⟨#[99, 111, 112, 121]⟩), .v (.int .i64 (3)), .sl 1210 0 3 [.agg [.v (.bool false), .v (.int .i64 (0)), .v (.int .i64 (0))]], .nils]], .bs 1204 0 3 6, .nils, .nils, .v (.int .i64 (0)), .bs 1214 0 8 1]
def sr3Mem : List AV := [.v (.int .i64 (4)), .v (.int .i64 (7)), .v (.bool false), .v (.int .i64 (0)), .v (.int .i64 (5)), .nils, .v (.int .i64 (5)), .v (.int .i64 (7)), .v (.bool false), .v (.int .i64 (0)), .v (.int .i64 (6)), .nils, .v (.int .i64 (6)), .v (.int .i64 (7)), .v (.bool false), .v (.int .i64 (0)), .v (.int .i64 (7)), .nils]
def sr3P (v0 v1 v2 v3 v4 v5 v6 v7 : Int) : List AV := [i64A v0, i64A v1, i64A v2, i64A v3, i64A v4, i64A v5, i64A v6, i64A v7]
theorem sr3_ok (na : AV) : lookO [1218, 1214, 1204] [0, 1, 8, 9] (srO4 na 3) = some (1222, [some na, some (.v (.int .i64 3)), some (.ptr 1218 0), some (.v (.bool true))], [some (.box sr3Obj), some (.box (sr3P 0 0 0 0 7 7 7 0)), some (.box sr3Mem)]) := by kernel_rfl
theorem sr3_stn (v0 v1 v2 v3 v4 v5 v6 v7 : Int) : seeR [1218, 1214, 1204] (callX E1 2000 27 [.ptr 1218 0, .nils] ⟨1222, T.set (T.set (T.set T.leaf 1204 (some (.box sr3Mem))) 1214 (some (.box (sr3P v0 v1 v2 v3 v4 v5 v6 v7)))) 1218 (some (.box sr3Obj))⟩) = some (rowI 0 0 [v4, 0], [some (.box sr3Obj), some (.box (sr3P 0 0 v4 0 v5 v6 (wrap64R (addI 0 0)) (wrap64R (addI 0 0)))), some (.box sr3Mem)]) := by kernel_rfl
theorem sr3_st0 (v0 v1 v2 v3 v4 v5 v6 v7 : Int) : seeR [1218, 1214, 1204] (callX E1 2000 27 [.ptr 1218 0, rowI 0 0 []] ⟨1222, T.set (T.set (T.set T.leaf 1204 (some (.box sr3Mem))) 1214 (some (.box (sr3P v0 v1 v2 v3 v4 v5 v6 v7)))) 1218 (some (.box sr3Obj))⟩) = some (rowI 0 0 [v4, 0], [some (.box sr3Obj), some (.box (sr3P 0 0 v4 0 v5 v6 (wrap64R (addI 0 0)) (wrap64R (addI 0 0)))), some (.box sr3Mem)]) := by kernel_rfl
theorem sr3_st1 (v0 v1 v2 v3 v4 v5 v6 v7 x0 : Int) : seeR [1218, 1214, 1204] (callX E1 2000 27 [.ptr 1218 0, rowI 0 0 [x0]] ⟨1222, T.set (T.set (T.set T.leaf 1204 (some (.box sr3Mem))) 1214 (some (.box (sr3P v0 v1 v2 v3 v4 v5 v6 v7)))) 1218 (some (.box sr3Obj))⟩) = some (rowI 0 0 [v4, x0], [some (.box sr3Obj), some (.box (sr3P x0 0 v4 x0 v5 v6 (wrap64R (addI x0 0)) (wrap64R (addI x0 0)))), some (.box sr3Mem)]) := by kernel_rfl
theorem sr3_st2 (v0 v1 v2 v3 v4 v5 v6 v7 x0 x1 : Int) : seeR [1218, 1214, 1204] (callX E1 2000 27 [.ptr 1218 0, rowI 0 0 [x0, x1]] ⟨1222, T.set (T.set (T.set T.leaf 1204 (some (.box sr3Mem))) 1214 (some (.box (sr3P v0 v1 v2 v3 v4 v5 v6 v7)))) 1218 (some (.box sr3Obj))⟩) = some (rowI 0 0 [v4, x0], [some (.box sr3Obj), some (.box (sr3P x0 x1 v4 x0 v5 v6 (wrap64R (addI x0 x1)) (wrap64R (addI x0 x1)))), some (.box sr3Mem)]) := by kernel_rfl
theorem sr3_st3 (v0 v1 v2 v3 v4 v5 v6 v7 x0 x1 x2 : Int) : seeR [1218, 1214, 1204] (callX E1 2000 27 [.ptr 1218 0, rowI 0 0 [x0, x1, x2]] ⟨1222, T.set (T.set (T.set T.leaf 1204 (some (.box sr3Mem))) 1214 (some (.box (sr3P v0 v1 v2 v3 v4 v5 v6 v7)))) 1218 (some (.box sr3Obj))⟩) = some (rowI 0 0 [v4, x0], [some (.box sr3Obj), some (.box (sr3P x0 x1 v4 x0 v5 v6 (wrap64R (addI x0 x1)) (wrap64R (addI x0 x1)))), some (.box sr3Mem)]) := by kernel_rfl
theorem sr3_st4 (v0 v1 v2 v3 v4 v5 v6 v7 x0 x1 x2 x3 : Int) : seeR [1218, 1214, 1204] (callX E1 2000 27 [.ptr 1218 0, rowI 0 0 [x0, x1, x2, x3]] ⟨1222, T.set (T.set (T.set T.leaf 1204 (some (.box sr3Mem))) 1214 (some (.box (sr3P v0 v1 v2 v3 v4 v5 v6 v7)))) 1218 (some (.box sr3Obj))⟩) = some (rowI 0 0 [v4, x0], [some (.box sr3Obj), some (.box (sr3P x0 x1 v4 x0 v5 v6 (wrap64R (addI x0 x1)) (wrap64R (addI x0 x1)))), some (.box sr3Mem)]) := by kernel_rfl
theorem sr3_st5 (v0 v1 v2 v3 v4 v5 v6 v7 x0 x1 x2 x3 x4 : Int) : seeR [1218, 1214, 1204] (callX E1 2000 27 [.ptr 1218 0, rowI 0 0 [x0, x1, x2, x3, x4]] ⟨1222, T.set (T.set (T.set T.leaf 1204 (some (.box sr3Mem))) 1214 (some (.box (sr3P v0 v1 v2 v3 v4 v5 v6 v7)))) 1218 (some (.box sr3Obj))⟩) = some (rowI 0 0 [v4, x0], [some (.box sr3Obj), some (.box (sr3P x0 x1 v4 x0 v5 v6 (wrap64R (addI x0 x1)) (wrap64R (addI x0 x1)))), some (.box sr3Mem)]) := by kernel_rfl
theorem sr3_okO : okC 1222 (some (.box sr3Obj)) = true := by kernel_rfl
theorem sr3_okM : okC 1222 (some (.box sr3Mem)) = true := by kernel_rfl
theorem sr3_okP (v0 v1 v2 v3 v4 v5 v6 v7 : Int) : okC 1222 (some (.box (sr3P v0 v1 v2 v3 v4 v5 v6 v7))) = true := by kernel_rfl
/-- How it stands after so many instants. -/
def sr3Inv (s : Int) (i : Nat) (S : St) : Prop := 1222 ≤ S.next ∧ S.mem.get 1218 = some (.box sr3Obj) ∧ S.mem.get 1204 = some (.box sr3Mem) ∧ ∃ v0 v1 v2 v3 vl : Int, S.mem.get 1214 = some (.box (sr3P v0 v1 v2 v3 (qv s 3 i 1) (qv s 3 i 2) (qv s 3 i 3) vl))
theorem sr3_in {S : St} {na : AV} {cs : List AV} (ha : ltL 1222 [.ptr 1218 0, na] = true) (hn : 1222 ≤ S.next) (ho : S.mem.get 1218 = some (.box sr3Obj)) (hm : S.mem.get 1204 = some (.box sr3Mem)) (hp : S.mem.get 1214 = some (.box cs)) (hk : okC 1222 (some (.box cs)) = true) :
    smallIn 1222 [1218, 1214, 1204] [.ptr 1218 0, na] S = true ∧ subM S [1218, 1214, 1204] = T.set (T.set (T.set T.leaf 1204 (some (.box sr3Mem))) 1214 (some (.box cs))) 1218 (some (.box sr3Obj)) := by
  refine ⟨?_, by simp only [subM, ho, hp, hm]⟩
  unfold smallIn
  simp only [List.all_cons, List.all_nil, ho, hp, hm, sr3_okO, sr3_okM, hk, ha, Bool.and_true, Nat.ble_eq_true_of_le hn]
  rfl
theorem sr3_does (na : AV) (l : List Int) (hna : isRowI na l) (hl : l.length ≤ 5) : Does 1222 1218 [1218, 1214, 1204] na 3 (firstI l 0) (firstI l 1) (sr3Inv (IntKind.i64.wrap (firstI l 0 + firstI l 1))) := by
  intro i S hi hI
  obtain ⟨hn, ho, hm, v0, v1, v2, v3, vl, hp⟩ := hI
  have hsum := sum_eq (firstI l 0) (firstI l 1)
  have hq := qv_want 3 i (firstI l 0) (firstI l 1)
  generalize hs : IntKind.i64.wrap (firstI l 0 + firstI l 1) = s at hsum hq hp ⊢
  rcases hna with ⟨rfl, rfl⟩ | rfl
  · skip
    obtain ⟨q1, q2⟩ := sr3_in (na := .nils) (by kernel_rfl) hn ho hm hp (sr3_okP ..)
    obtain ⟨S', r1, r2, r3, r4⟩ := via_eq (k := 27) q1 (by rw [q2]; exact sr3_stn ..) (by simp only [List.all_cons, List.all_nil, sr3_okO, sr3_okM, sr3_okP, Bool.and_true])
    simp only [List.map_cons, List.map_nil, List.cons.injEq, and_true] at r4
    have hsum : wrap64R (addI 0 0) = s := hsum
    rw [hsum] at r4
    refine ⟨S', r1.trans ?_, by omega, r4.1, r4.2.2, 0, 0, qv s 3 i 1, 0, s, ?_⟩
    · exact congrArg (fun y => R.ret (rowI 0 0 [y, 0]) S') hq
    · simp only [qv_succ, Nat.reduceAdd, qv_last3]
      exact r4.2.1
  · match l, hl with
    | [], _ =>
      obtain ⟨q1, q2⟩ := sr3_in (na := rowI 0 0 []) (by kernel_rfl) hn ho hm hp (sr3_okP ..)
      obtain ⟨S', r1, r2, r3, r4⟩ := via_eq (k := 27) q1 (by rw [q2]; exact sr3_st0 ..) (by simp only [List.all_cons, List.all_nil, sr3_okO, sr3_okM, sr3_okP, Bool.and_true])
      simp only [List.map_cons, List.map_nil, List.cons.injEq, and_true] at r4
      have hsum : wrap64R (addI 0 0) = s := hsum
      rw [hsum] at r4
      refine ⟨S', r1.trans ?_, by omega, r4.1, r4.2.2, 0, 0, qv s 3 i 1, 0, s, ?_⟩
      · exact congrArg (fun y => R.ret (rowI 0 0 [y, 0]) S') hq
      · simp only [qv_succ, Nat.reduceAdd, qv_last3]
        exact r4.2.1
    | [x0], _ =>
      obtain ⟨q1, q2⟩ := sr3_in (na := rowI 0 0 [x0]) (by kernel_rfl) hn ho hm hp (sr3_okP ..)
      obtain ⟨S', r1, r2, r3, r4⟩ := via_eq (k := 27) q1 (by rw [q2]; exact sr3_st1 ..) (by simp only [List.all_cons, List.all_nil, sr3_okO, sr3_okM, sr3_okP, Bool.and_true])
      simp only [List.map_cons, List.map_nil, List.cons.injEq, and_true] at r4
      have hsum : wrap64R (addI x0 0) = s := hsum
      rw [hsum] at r4
      refine ⟨S', r1.trans ?_, by omega, r4.1, r4.2.2, x0, 0, qv s 3 i 1, x0, s, ?_⟩
      · exact congrArg (fun y => R.ret (rowI 0 0 [y, x0]) S') hq
      · simp only [qv_succ, Nat.reduceAdd, qv_last3]
        exact r4.2.1
    | [x0, x1], _ =>
      obtain ⟨q1, q2⟩ := sr3_in (na := rowI 0 0 [x0, x1]) (by kernel_rfl) hn ho hm hp (sr3_okP ..)
      obtain ⟨S', r1, r2, r3, r4⟩ := via_eq (k := 27) q1 (by rw [q2]; exact sr3_st2 ..) (by simp only [List.all_cons, List.all_nil, sr3_okO, sr3_okM, sr3_okP, Bool.and_true])
      simp only [List.map_cons, List.map_nil, List.cons.injEq, and_true] at r4
      have hsum : wrap64R (addI x0 x1) = s := hsum
      rw [hsum] at r4
      refine ⟨S', r1.trans ?_, by omega, r4.1, r4.2.2, x0, x1, qv s 3 i 1, x0, s, ?_⟩
      · exact congrArg (fun y => R.ret (rowI 0 0 [y, x0]) S') hq
      · simp only [qv_succ, Nat.reduceAdd, qv_last3]
        exact r4.2.1
    | [x0, x1, x2], _ =>
      obtain ⟨q1, q2⟩ := sr3_in (na := rowI 0 0 [x0, x1, x2]) (by kernel_rfl) hn ho hm hp (sr3_okP ..)
      obtain ⟨S', r1, r2, r3, r4⟩ := via_eq (k := 27) q1 (by rw [q2]; exact sr3_st3 ..) (by simp only [List.all_cons, List.all_nil, sr3_okO, sr3_okM, sr3_okP, Bool.and_true])
      simp only [List.map_cons, List.map_nil, List.cons.injEq, and_true] at r4
      have hsum : wrap64R (addI x0 x1) = s := hsum
      rw [hsum] at r4
      refine ⟨S', r1.trans ?_, by omega, r4.1, r4.2.2, x0, x1, qv s 3 i 1, x0, s, ?_⟩
      · exact congrArg (fun y => R.ret (rowI 0 0 [y, x0]) S') hq
      · simp only [qv_succ, Nat.reduceAdd, qv_last3]
        exact r4.2.1
    | [x0, x1, x2, x3], _ =>
      obtain ⟨q1, q2⟩ := sr3_in (na := rowI 0 0 [x0, x1, x2, x3]) (by kernel_rfl) hn ho hm hp (sr3_okP ..)
      obtain ⟨S', r1, r2, r3, r4⟩ := via_eq (k := 27) q1 (by rw [q2]; exact sr3_st4 ..) (by simp only [List.all_cons, List.all_nil, sr3_okO, sr3_okM, sr3_okP, Bool.and_true])
      simp only [List.map_cons, List.map_nil, List.cons.injEq, and_true] at r4
      have hsum : wrap64R (addI x0 x1) = s := hsum
      rw [hsum] at r4
      refine ⟨S', r1.trans ?_, by omega, r4.1, r4.2.2, x0, x1, qv s 3 i 1, x0, s, ?_⟩
      · exact congrArg (fun y => R.ret (rowI 0 0 [y, x0]) S') hq
      · simp only [qv_succ, Nat.reduceAdd, qv_last3]
        exact r4.2.1
    | [x0, x1, x2, x3, x4], _ =>
      obtain ⟨q1, q2⟩ := sr3_in (na := rowI 0 0 [x0, x1, x2, x3, x4]) (by kernel_rfl) hn ho hm hp (sr3_okP ..)
      obtain ⟨S', r1, r2, r3, r4⟩ := via_eq (k := 27) q1 (by rw [q2]; exact sr3_st5 ..) (by simp only [List.all_cons, List.all_nil, sr3_okO, sr3_okM, sr3_okP, Bool.and_true])
      simp only [List.map_cons, List.map_nil, List.cons.injEq, and_true] at r4
      have hsum : wrap64R (addI x0 x1) = s := hsum
      rw [hsum] at r4
      refine ⟨S', r1.trans ?_, by omega, r4.1, r4.2.2, x0, x1, qv s 3 i 1, x0, s, ?_⟩
      · exact congrArg (fun y => R.ret (rowI 0 0 [y, x0]) S') hq
      · simp only [qv_succ, Nat.reduceAdd, qv_last3]
        exact r4.2.1
    | _ :: _ :: _ :: _ :: _ :: _ :: _, h => exact absurd h (by simp)
theorem sr3_start (na : AV) (s : Int) : (outF (srO4 na 3)).get 0 = some na ∧ (outF (srO4 na 3)).get 1 = some (.v (.int .i64 3)) ∧ (outF (srO4 na 3)).get 8 = some (.ptr 1218 0) ∧ (outF (srO4 na 3)).get 9 = some (.v (.bool true)) ∧ sr3Inv s 0 (outS (srO4 na 3)) := by
  obtain ⟨_, h2, h3, h4⟩ := lookO_spec (sr3_ok na)
  simp only [List.map_cons, List.map_nil, List.cons.injEq, and_true] at h3 h4
  exact ⟨h3.1, h3.2.1, h3.2.2.1, h3.2.2.2, by omega, h4.1, h4.2.2, 0, 0, 0, 0, 0, h4.2.1⟩
theorem sr3_rest (na : AV) (l : List Int) (hna : isRowI na l) (hl : l.length ≤ 5) : ∃ (N : Nat) (ids : List Nat), W (E2 N ids) 75 srRest ⟨outF (srO4 na 3), []⟩ (outS (srO4 na 3)) (fun r => ∃ f' S', r = .out .ret ⟨f', []⟩ S' ∧ f'.get 4 = some (.v (.bool true))) := by
  obtain ⟨g0, g1, g8, g9, gS⟩ := sr3_start na (IntKind.i64.wrap (firstI l 0 + firstI l 1))
  exact ⟨1222, [1218, 1214, 1204], sr_rest 1222 1218 [1218, 1214, 1204] na l hna 3 _ (sr3_does na l hna hl) _ _ g0 g1 g8 g9 gS⟩
end Go.Ax
