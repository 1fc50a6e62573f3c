/-
  SoloRows with 7 delays: its unit, an instant of it.
-/
import Derived.Test.YtgnohckncmhodaaGreatDoorSvG10
set_option linter.unusedVariables false
set_option linter.unusedSimpArgs false
set_option maxHeartbeats 16000000
noncomputable section
namespace Go.Ax
open Go.RowKit Go.Proofs
set_option linter.unusedVariables false
set_option linter.unusedSimpArgs false
set_option maxRecDepth 100000
def sr7Obj : List AV := [.v (.string ⟨#[]⟩), .v (.int .i64 (0)), .v (.int .i64 (0)), .sl 1921 0 1 [.v (.int .i64 (0)), .v (.int .i64 (1))], .sl 1922 0 1 [.v (.int .i64 (2)), .v (.int .i64 (3))], .sl 1949 0 4 [.agg [.v (.string ⟨#[43]⟩), .v (.int .i64 (11)), .sl 1926 0 3 [.agg [.v (.bool false), .v (.int .i64 (0)), .v (.int .i64 (0))], .agg [.v (.bool false), .v (.int .i64 (0)), .v (.int .i64 (1))]], .nils], .agg [.v (.string ⟨#[99, 111, 112, 121]⟩), .v (.int .i64 (2)), .sl 1928 0 3 [.agg [.v (.bool false), .v (.int .i64 (0)), .v (.int .i64 (4))]], .nils], .agg [.v (.string ⟨#[99, 111, 112, 121]⟩), .v (.int .i64 (3)), .sl 1930 0 3 [.agg [.v (.bool false), .v (.int .i64 (0)), .v (.int .i64 (0))]], .nils]], .bs 1924 0 7 6, .nils, .nils, .v (.int .i64 (0)), .bs 1938 0 12 1]
def sr7Mem : List AV := [.v (.int .i64 (4)), .v (.int .i64 (7)), .v (.bool false), .v (.int .i64 (0)), .v (.int .i64 (5)), .nils, .v (.int .i64 (5)), .v (.int .i64 (7)), .v (.bool false), .v (.int .i64 (0)), .v (.int .i64 (6)), .nils, .v (.int .i64 (6)), .v (.int .i64 (7)), .v (.bool false), .v (.int .i64 (0)), .v (.int .i64 (7)), .nils, .v (.int .i64 (7)), .v (.int .i64 (7)), .v (.bool false), .v (.int .i64 (0)), .v (.int .i64 (8)), .nils, .v (.int .i64 (8)), .v (.int .i64 (7)), .v (.bool false), .v (.int .i64 (0)), .v (.int .i64 (9)), .nils, .v (.int .i64 (9)), .v (.int .i64 (7)), .v (.bool false), .v (.int .i64 (0)), .v (.int .i64 (10)), .nils, .v (.int .i64 (10)), .v (.int .i64 (7)), .v (.bool false), .v (.int .i64 (0)), .v (.int .i64 (11)), .nils]
def sr7P (v0 v1 v2 v3 v4 v5 v6 v7 v8 v9 v10 v11 : Int) : List AV := [i64A v0, i64A v1, i64A v2, i64A v3, i64A v4, i64A v5, i64A v6, i64A v7, i64A v8, i64A v9, i64A v10, i64A v11]
theorem sr7_ok (na : AV) : lookO [1946, 1938, 1924] [0, 1, 8, 9] (srO4 na 7) = some (1950, [some na, some (.v (.int .i64 7)), some (.ptr 1946 0), some (.v (.bool true))], [some (.box sr7Obj), some (.box (sr7P 0 0 0 0 7 7 7 7 7 7 7 0)), some (.box sr7Mem)]) := by kernel_rfl
theorem sr7_stn (v0 v1 v2 v3 v4 v5 v6 v7 v8 v9 v10 v11 : Int) : seeR [1946, 1938, 1924] (callX E1 2000 27 [.ptr 1946 0, .nils] ⟨1950, T.set (T.set (T.set T.leaf 1924 (some (.box sr7Mem))) 1938 (some (.box (sr7P v0 v1 v2 v3 v4 v5 v6 v7 v8 v9 v10 v11)))) 1946 (some (.box sr7Obj))⟩) = some (rowI 0 0 [v4, 0], [some (.box sr7Obj), some (.box (sr7P 0 0 v4 0 v5 v6 v7 v8 v9 v10 (wrap64R (addI 0 0)) (wrap64R (addI 0 0)))), some (.box sr7Mem)]) := by kernel_rfl
theorem sr7_st0 (v0 v1 v2 v3 v4 v5 v6 v7 v8 v9 v10 v11 : Int) : seeR [1946, 1938, 1924] (callX E1 2000 27 [.ptr 1946 0, rowI 0 0 []] ⟨1950, T.set (T.set (T.set T.leaf 1924 (some (.box sr7Mem))) 1938 (some (.box (sr7P v0 v1 v2 v3 v4 v5 v6 v7 v8 v9 v10 v11)))) 1946 (some (.box sr7Obj))⟩) = some (rowI 0 0 [v4, 0], [some (.box sr7Obj), some (.box (sr7P 0 0 v4 0 v5 v6 v7 v8 v9 v10 (wrap64R (addI 0 0)) (wrap64R (addI 0 0)))), some (.box sr7Mem)]) := by kernel_rfl
theorem sr7_st1 (v0 v1 v2 v3 v4 v5 v6 v7 v8 v9 v10 v11 x0 : Int) : seeR [1946, 1938, 1924] (callX E1 2000 27 [.ptr 1946 0, rowI 0 0 [x0]] ⟨1950, T.set (T.set (T.set T.leaf 1924 (some (.box sr7Mem))) 1938 (some (.box (sr7P v0 v1 v2 v3 v4 v5 v6 v7 v8 v9 v10 v11)))) 1946 (some (.box sr7Obj))⟩) = some (rowI 0 0 [v4, x0], [some (.box sr7Obj), some (.box (sr7P x0 0 v4 x0 v5 v6 v7 v8 v9 v10 (wrap64R (addI x0 0)) (wrap64R (addI x0 0)))), some (.box sr7Mem)]) := by kernel_rfl
theorem sr7_st2 (v0 v1 v2 v3 v4 v5 v6 v7 v8 v9 v10 v11 x0 x1 : Int) : seeR [1946, 1938, 1924] (callX E1 2000 27 [.ptr 1946 0, rowI 0 0 [x0, x1]] ⟨1950, T.set (T.set (T.set T.leaf 1924 (some (.box sr7Mem))) 1938 (some (.box (sr7P v0 v1 v2 v3 v4 v5 v6 v7 v8 v9 v10 v11)))) 1946 (some (.box sr7Obj))⟩) = some (rowI 0 0 [v4, x0], [some (.box sr7Obj), some (.box (sr7P x0 x1 v4 x0 v5 v6 v7 v8 v9 v10 (wrap64R (addI x0 x1)) (wrap64R (addI x0 x1)))), some (.box sr7Mem)]) := by kernel_rfl
theorem sr7_st3 (v0 v1 v2 v3 v4 v5 v6 v7 v8 v9 v10 v11 x0 x1 x2 : Int) : seeR [1946, 1938, 1924] (callX E1 2000 27 [.ptr 1946 0, rowI 0 0 [x0, x1, x2]] ⟨1950, T.set (T.set (T.set T.leaf 1924 (some (.box sr7Mem))) 1938 (some (.box (sr7P v0 v1 v2 v3 v4 v5 v6 v7 v8 v9 v10 v11)))) 1946 (some (.box sr7Obj))⟩) = some (rowI 0 0 [v4, x0], [some (.box sr7Obj), some (.box (sr7P x0 x1 v4 x0 v5 v6 v7 v8 v9 v10 (wrap64R (addI x0 x1)) (wrap64R (addI x0 x1)))), some (.box sr7Mem)]) := by kernel_rfl
theorem sr7_st4 (v0 v1 v2 v3 v4 v5 v6 v7 v8 v9 v10 v11 x0 x1 x2 x3 : Int) : seeR [1946, 1938, 1924] (callX E1 2000 27 [.ptr 1946 0, rowI 0 0 [x0, x1, x2, x3]] ⟨1950, T.set (T.set (T.set T.leaf 1924 (some (.box sr7Mem))) 1938 (some (.box (sr7P v0 v1 v2 v3 v4 v5 v6 v7 v8 v9 v10 v11)))) 1946 (some (.box sr7Obj))⟩) = some (rowI 0 0 [v4, x0], [some (.box sr7Obj), some (.box (sr7P x0 x1 v4 x0 v5 v6 v7 v8 v9 v10 (wrap64R (addI x0 x1)) (wrap64R (addI x0 x1)))), some (.box sr7Mem)]) := by kernel_rfl
theorem sr7_st5 (v0 v1 v2 v3 v4 v5 v6 v7 v8 v9 v10 v11 x0 x1 x2 x3 x4 : Int) : seeR [1946, 1938, 1924] (callX E1 2000 27 [.ptr 1946 0, rowI 0 0 [x0, x1, x2, x3, x4]] ⟨1950, T.set (T.set (T.set T.leaf 1924 (some (.box sr7Mem))) 1938 (some (.box (sr7P v0 v1 v2 v3 v4 v5 v6 v7 v8 v9 v10 v11)))) 1946 (some (.box sr7Obj))⟩) = some (rowI 0 0 [v4, x0], [some (.box sr7Obj), some (.box (sr7P x0 x1 v4 x0 v5 v6 v7 v8 v9 v10 (wrap64R (addI x0 x1)) (wrap64R (addI x0 x1)))), some (.box sr7Mem)]) := by kernel_rfl
theorem sr7_okO : okC 1950 (some (.box sr7Obj)) = true := by kernel_rfl
theorem sr7_okM : okC 1950 (some (.box sr7Mem)) = true := by kernel_rfl
theorem sr7_okP (v0 v1 v2 v3 v4 v5 v6 v7 v8 v9 v10 v11 : Int) : okC 1950 (some (.box (sr7P v0 v1 v2 v3 v4 v5 v6 v7 v8 v9 v10 v11))) = true := by kernel_rfl
/-- How it stands after so many instants. -/
def sr7Inv (s : Int) (i : Nat) (S : St) : Prop := 1950 ≤ S.next ∧ S.mem.get 1946 = some (.box sr7Obj) ∧ S.mem.get 1924 = some (.box sr7Mem) ∧ ∃ v0 v1 v2 v3 vl : Int, S.mem.get 1938 = some (.box (sr7P v0 v1 v2 v3 (qv s 7 i 1) (qv s 7 i 2) (qv s 7 i 3) (qv s 7 i 4) (qv s 7 i 5) (qv s 7 i 6) (qv s 7 i 7) vl))
theorem sr7_in {S : St} {na : AV} {cs : List AV} (ha : ltL 1950 [.ptr 1946 0, na] = true) (hn : 1950 ≤ S.next) (ho : S.mem.get 1946 = some (.box sr7Obj)) (hm : S.mem.get 1924 = some (.box sr7Mem)) (hp : S.mem.get 1938 = some (.box cs)) (hk : okC 1950 (some (.box cs)) = true) :
    smallIn 1950 [1946, 1938, 1924] [.ptr 1946 0, na] S = true ∧ subM S [1946, 1938, 1924] = T.set (T.set (T.set T.leaf 1924 (some (.box sr7Mem))) 1938 (some (.box cs))) 1946 (some (.box sr7Obj)) := by
  refine ⟨?_, by simp only [subM, ho, hp, hm]⟩
  unfold smallIn
  simp only [List.all_cons, List.all_nil, ho, hp, hm, sr7_okO, sr7_okM, hk, ha, Bool.and_true, Nat.ble_eq_true_of_le hn]
  rfl
theorem sr7_does (na : AV) (l : List Int) (hna : isRowI na l) (hl : l.length ≤ 5) : Does 1950 1946 [1946, 1938, 1924] na 7 (firstI l 0) (firstI l 1) (sr7Inv (IntKind.i64.wrap (firstI l 0 + firstI l 1))) := by
  intro i S hi hI
  obtain ⟨hn, ho, hm, v0, v1, v2, v3, vl, hp⟩ := hI
  have hsum := sum_eq (firstI l 0) (firstI l 1)
  have hq := qv_want 7 i (firstI l 0) (firstI l 1)
  generalize hs : IntKind.i64.wrap (firstI l 0 + firstI l 1) = s at hsum hq hp ⊢
  rcases hna with ⟨rfl, rfl⟩ | rfl
  · skip
    obtain ⟨q1, q2⟩ := sr7_in (na := .nils) (by kernel_rfl) hn ho hm hp (sr7_okP ..)
    obtain ⟨S', r1, r2, r3, r4⟩ := via_eq (k := 27) q1 (by rw [q2]; exact sr7_stn ..) (by simp only [List.all_cons, List.all_nil, sr7_okO, sr7_okM, sr7_okP, Bool.and_true])
    simp only [List.map_cons, List.map_nil, List.cons.injEq, and_true] at r4
    have hsum : wrap64R (addI 0 0) = s := hsum
    rw [hsum] at r4
    refine ⟨S', r1.trans ?_, by omega, r4.1, r4.2.2, 0, 0, qv s 7 i 1, 0, s, ?_⟩
    · exact congrArg (fun y => R.ret (rowI 0 0 [y, 0]) S') hq
    · simp only [qv_succ, Nat.reduceAdd, qv_last7]
      exact r4.2.1
  · match l, hl with
    | [], _ =>
      obtain ⟨q1, q2⟩ := sr7_in (na := rowI 0 0 []) (by kernel_rfl) hn ho hm hp (sr7_okP ..)
      obtain ⟨S', r1, r2, r3, r4⟩ := via_eq (k := 27) q1 (by rw [q2]; exact sr7_st0 ..) (by simp only [List.all_cons, List.all_nil, sr7_okO, sr7_okM, sr7_okP, Bool.and_true])
      simp only [List.map_cons, List.map_nil, List.cons.injEq, and_true] at r4
      have hsum : wrap64R (addI 0 0) = s := hsum
      rw [hsum] at r4
      refine ⟨S', r1.trans ?_, by omega, r4.1, r4.2.2, 0, 0, qv s 7 i 1, 0, s, ?_⟩
      · exact congrArg (fun y => R.ret (rowI 0 0 [y, 0]) S') hq
      · simp only [qv_succ, Nat.reduceAdd, qv_last7]
        exact r4.2.1
    | [x0], _ =>
      obtain ⟨q1, q2⟩ := sr7_in (na := rowI 0 0 [x0]) (by kernel_rfl) hn ho hm hp (sr7_okP ..)
      obtain ⟨S', r1, r2, r3, r4⟩ := via_eq (k := 27) q1 (by rw [q2]; exact sr7_st1 ..) (by simp only [List.all_cons, List.all_nil, sr7_okO, sr7_okM, sr7_okP, Bool.and_true])
      simp only [List.map_cons, List.map_nil, List.cons.injEq, and_true] at r4
      have hsum : wrap64R (addI x0 0) = s := hsum
      rw [hsum] at r4
      refine ⟨S', r1.trans ?_, by omega, r4.1, r4.2.2, x0, 0, qv s 7 i 1, x0, s, ?_⟩
      · exact congrArg (fun y => R.ret (rowI 0 0 [y, x0]) S') hq
      · simp only [qv_succ, Nat.reduceAdd, qv_last7]
        exact r4.2.1
    | [x0, x1], _ =>
      obtain ⟨q1, q2⟩ := sr7_in (na := rowI 0 0 [x0, x1]) (by kernel_rfl) hn ho hm hp (sr7_okP ..)
      obtain ⟨S', r1, r2, r3, r4⟩ := via_eq (k := 27) q1 (by rw [q2]; exact sr7_st2 ..) (by simp only [List.all_cons, List.all_nil, sr7_okO, sr7_okM, sr7_okP, Bool.and_true])
      simp only [List.map_cons, List.map_nil, List.cons.injEq, and_true] at r4
      have hsum : wrap64R (addI x0 x1) = s := hsum
      rw [hsum] at r4
      refine ⟨S', r1.trans ?_, by omega, r4.1, r4.2.2, x0, x1, qv s 7 i 1, x0, s, ?_⟩
      · exact congrArg (fun y => R.ret (rowI 0 0 [y, x0]) S') hq
      · simp only [qv_succ, Nat.reduceAdd, qv_last7]
        exact r4.2.1
    | [x0, x1, x2], _ =>
      obtain ⟨q1, q2⟩ := sr7_in (na := rowI 0 0 [x0, x1, x2]) (by kernel_rfl) hn ho hm hp (sr7_okP ..)
      obtain ⟨S', r1, r2, r3, r4⟩ := via_eq (k := 27) q1 (by rw [q2]; exact sr7_st3 ..) (by simp only [List.all_cons, List.all_nil, sr7_okO, sr7_okM, sr7_okP, Bool.and_true])
      simp only [List.map_cons, List.map_nil, List.cons.injEq, and_true] at r4
      have hsum : wrap64R (addI x0 x1) = s := hsum
      rw [hsum] at r4
      refine ⟨S', r1.trans ?_, by omega, r4.1, r4.2.2, x0, x1, qv s 7 i 1, x0, s, ?_⟩
      · exact congrArg (fun y => R.ret (rowI 0 0 [y, x0]) S') hq
      · simp only [qv_succ, Nat.reduceAdd, qv_last7]
        exact r4.2.1
    | [x0, x1, x2, x3], _ =>
      obtain ⟨q1, q2⟩ := sr7_in (na := rowI 0 0 [x0, x1, x2, x3]) (by kernel_rfl) hn ho hm hp (sr7_okP ..)
      obtain ⟨S', r1, r2, r3, r4⟩ := via_eq (k := 27) q1 (by rw [q2]; exact sr7_st4 ..) (by simp only [List.all_cons, List.all_nil, sr7_okO, sr7_okM, sr7_okP, Bool.and_true])
      simp only [List.map_cons, List.map_nil, List.cons.injEq, and_true] at r4
      have hsum : wrap64R (addI x0 x1) = s := hsum
      rw [hsum] at r4
      refine ⟨S', r1.trans ?_, by omega, r4.1, r4.2.2, x0, x1, qv s 7 i 1, x0, s, ?_⟩
      · exact congrArg (fun y => R.ret (rowI 0 0 [y, x0]) S') hq
      · simp only [qv_succ, Nat.reduceAdd, qv_last7]
        exact r4.2.1
    | [x0, x1, x2, x3, x4], _ =>
      obtain ⟨q1, q2⟩ := sr7_in (na := rowI 0 0 [x0, x1, x2, x3, x4]) (by kernel_rfl) hn ho hm hp (sr7_okP ..)
      obtain ⟨S', r1, r2, r3, r4⟩ := via_eq (k := 27) q1 (by rw [q2]; exact sr7_st5 ..) (by simp only [List.all_cons, List.all_nil, sr7_okO, sr7_okM, sr7_okP, Bool.and_true])
      simp only [List.map_cons, List.map_nil, List.cons.injEq, and_true] at r4
      have hsum : wrap64R (addI x0 x1) = s := hsum
      rw [hsum] at r4
      refine ⟨S', r1.trans ?_, by omega, r4.1, r4.2.2, x0, x1, qv s 7 i 1, x0, s, ?_⟩
      · exact congrArg (fun y => R.ret (rowI 0 0 [y, x0]) S') hq
      · simp only [qv_succ, Nat.reduceAdd, qv_last7]
        exact r4.2.1
    | _ :: _ :: _ :: _ :: _ :: _ :: _, h => exact absurd h (by simp)
theorem sr7_start (na : AV) (s : Int) : (outF (srO4 na 7)).get 0 = some na ∧ (outF (srO4 na 7)).get 1 = some (.v (.int .i64 7)) ∧ (outF (srO4 na 7)).get 8 = some (.ptr 1946 0) ∧ (outF (srO4 na 7)).get 9 = some (.v (.bool true)) ∧ sr7Inv s 0 (outS (srO4 na 7)) := by
  obtain ⟨_, h2, h3, h4⟩ := lookO_spec (sr7_ok na)
  simp only [List.map_cons, List.map_nil, List.cons.injEq, and_true] at h3 h4
  exact ⟨h3.1, h3.2.1, h3.2.2.1, h3.2.2.2, by omega, h4.1, h4.2.2, 0, 0, 0, 0, 0, h4.2.1⟩
theorem sr7_rest (na : AV) (l : List Int) (hna : isRowI na l) (hl : l.length ≤ 5) : ∃ (N : Nat) (ids : List Nat), W (E2 N ids) 75 srRest ⟨outF (srO4 na 7), []⟩ (outS (srO4 na 7)) (fun r => ∃ f' S', r = .out .ret ⟨f', []⟩ S' ∧ f'.get 4 = some (.v (.bool true))) := by
  obtain ⟨g0, g1, g8, g9, gS⟩ := sr7_start na (IntKind.i64.wrap (firstI l 0 + firstI l 1))
  exact ⟨1950, [1946, 1938, 1924], sr_rest 1950 1946 [1946, 1938, 1924] na l hna 7 _ (sr7_does na l hna hl) _ _ g0 g1 g8 g9 gS⟩
end Go.Ax
