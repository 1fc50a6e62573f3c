/-
  SoloRows with 6 delays: its unit, an instant of it.
-/
import Derived.Test.YtgnohckncmhodaaGreatDoorSvG10
set_option linter.unusedVariables false
set_option linter.unusedSimpArgs false
set_option maxHeartbeats 16000000
noncomputable section
namespace Go.Ax
open Go.RowKit Go.Proofs
set_option linter.unusedVariables false
set_option linter.unusedSimpArgs false
set_option maxRecDepth 100000
def sr6Obj : List AV := [.v (.string ⟨#[]⟩), .v (.int .i64 (0)), .v (.int .i64 (0)), .sl 1741 0 1 [.v (.int .i64 (0)), .v (.int .i64 (1))], .sl 1742 0 1 [.v (.int .i64 (2)), .v (.int .i64 (3))], .sl 1767 0 4 [.agg [.v (.string ⟨#[43]⟩), .v (.int .i64 (10)), .sl 1746 0 3 [.agg [.v (.bool false), .v (.int .i64 (0)), .v (.int .i64 (0))], .agg [.v (.bool false), .v (.int .i64 (0)), .v (.int .i64 (1))]], .nils], .agg [.v (.string ⟨#[99, 111, 112, 121]⟩), .v (.int .i64 (2)), .sl 1748 0 3 [.agg [.v (.bool false), .v (.int .i64 (0)), .v (.int .i64 (4))]], .nils], .agg [.v (.string ⟨#[99, 111, 112, 121]⟩), .v (.int .i64 (3)), .sl 1750 0 3 [.agg [.v (.bool false), .v (.int .i64 (0)), .v (.int .i64 (0))]], .nils]], .bs 1744 0 6 6, .nils, .nils, .v (.int .i64 (0)), .bs 1757 0 11 1]
def sr6Mem : List AV := [.v (.int .i64 (4)), .v (.int .i64 (7)), .v (.bool false), .v (.int .i64 (0)), .v (.int .i64 (5)), .nils, .v (.int .i64 (5)), .v (.int .i64 (7)), .v (.bool false), .v (.int .i64 (0)), .v (.int .i64 (6)), .nils, .v (.int .i64 (6)), .v (.int .i64 (7)), .v (.bool false), .v (.int .i64 (0)), .v (.int .i64 (7)), .nils, .v (.int .i64 (7)), .v (.int .i64 (7)), .v (.bool false), .v (.int .i64 (0)), .v (.int .i64 (8)), .nils, .v (.int .i64 (8)), .v (.int .i64 (7)), .v (.bool false), .v (.int .i64 (0)), .v (.int .i64 (9)), .nils, .v (.int .i64 (9)), .v (.int .i64 (7)), .v (.bool false), .v (.int .i64 (0)), .v (.int .i64 (10)), .nils]
def sr6P (v0 v1 v2 v3 v4 v5 v6 v7 v8 v9 v10 : Int) : List AV := [i64A v0, i64A v1, i64A v2, i64A v3, i64A v4, i64A v5, i64A v6, i64A v7, i64A v8, i64A v9, i64A v10]
theorem sr6_ok (na : AV) : lookO [1764, 1757, 1744] [0, 1, 8, 9] (srO4 na 6) = some (1768, [some na, some (.v (.int .i64 6)), some (.ptr 1764 0), some (.v (.bool true))], [some (.box sr6Obj), some (.box (sr6P 0 0 0 0 7 7 7 7 7 7 0)), some (.box sr6Mem)]) := by kernel_rfl
theorem sr6_stn (v0 v1 v2 v3 v4 v5 v6 v7 v8 v9 v10 : Int) : seeR [1764, 1757, 1744] (callX E1 2000 27 [.ptr 1764 0, .nils] ⟨1768, T.set (T.set (T.set T.leaf 1744 (some (.box sr6Mem))) 1757 (some (.box (sr6P v0 v1 v2 v3 v4 v5 v6 v7 v8 v9 v10)))) 1764 (some (.box sr6Obj))⟩) = some (rowI 0 0 [v4, 0], [some (.box sr6Obj), some (.box (sr6P 0 0 v4 0 v5 v6 v7 v8 v9 (wrap64R (addI 0 0)) (wrap64R (addI 0 0)))), some (.box sr6Mem)]) := by kernel_rfl
theorem sr6_st0 (v0 v1 v2 v3 v4 v5 v6 v7 v8 v9 v10 : Int) : seeR [1764, 1757, 1744] (callX E1 2000 27 [.ptr 1764 0, rowI 0 0 []] ⟨1768, T.set (T.set (T.set T.leaf 1744 (some (.box sr6Mem))) 1757 (some (.box (sr6P v0 v1 v2 v3 v4 v5 v6 v7 v8 v9 v10)))) 1764 (some (.box sr6Obj))⟩) = some (rowI 0 0 [v4, 0], [some (.box sr6Obj), some (.box (sr6P 0 0 v4 0 v5 v6 v7 v8 v9 (wrap64R (addI 0 0)) (wrap64R (addI 0 0)))), some (.box sr6Mem)]) := by kernel_rfl
theorem sr6_st1 (v0 v1 v2 v3 v4 v5 v6 v7 v8 v9 v10 x0 : Int) : seeR [1764, 1757, 1744] (callX E1 2000 27 [.ptr 1764 0, rowI 0 0 [x0]] ⟨1768, T.set (T.set (T.set T.leaf 1744 (some (.box sr6Mem))) 1757 (some (.box (sr6P v0 v1 v2 v3 v4 v5 v6 v7 v8 v9 v10)))) 1764 (some (.box sr6Obj))⟩) = some (rowI 0 0 [v4, x0], [some (.box sr6Obj), some (.box (sr6P x0 0 v4 x0 v5 v6 v7 v8 v9 (wrap64R (addI x0 0)) (wrap64R (addI x0 0)))), some (.box sr6Mem)]) := by kernel_rfl
theorem sr6_st2 (v0 v1 v2 v3 v4 v5 v6 v7 v8 v9 v10 x0 x1 : Int) : seeR [1764, 1757, 1744] (callX E1 2000 27 [.ptr 1764 0, rowI 0 0 [x0, x1]] ⟨1768, T.set (T.set (T.set T.leaf 1744 (some (.box sr6Mem))) 1757 (some (.box (sr6P v0 v1 v2 v3 v4 v5 v6 v7 v8 v9 v10)))) 1764 (some (.box sr6Obj))⟩) = some (rowI 0 0 [v4, x0], [some (.box sr6Obj), some (.box (sr6P x0 x1 v4 x0 v5 v6 v7 v8 v9 (wrap64R (addI x0 x1)) (wrap64R (addI x0 x1)))), some (.box sr6Mem)]) := by kernel_rfl
theorem sr6_st3 (v0 v1 v2 v3 v4 v5 v6 v7 v8 v9 v10 x0 x1 x2 : Int) : seeR [1764, 1757, 1744] (callX E1 2000 27 [.ptr 1764 0, rowI 0 0 [x0, x1, x2]] ⟨1768, T.set (T.set (T.set T.leaf 1744 (some (.box sr6Mem))) 1757 (some (.box (sr6P v0 v1 v2 v3 v4 v5 v6 v7 v8 v9 v10)))) 1764 (some (.box sr6Obj))⟩) = some (rowI 0 0 [v4, x0], [some (.box sr6Obj), some (.box (sr6P x0 x1 v4 x0 v5 v6 v7 v8 v9 (wrap64R (addI x0 x1)) (wrap64R (addI x0 x1)))), some (.box sr6Mem)]) := by kernel_rfl
theorem sr6_st4 (v0 v1 v2 v3 v4 v5 v6 v7 v8 v9 v10 x0 x1 x2 x3 : Int) : seeR [1764, 1757, 1744] (callX E1 2000 27 [.ptr 1764 0, rowI 0 0 [x0, x1, x2, x3]] ⟨1768, T.set (T.set (T.set T.leaf 1744 (some (.box sr6Mem))) 1757 (some (.box (sr6P v0 v1 v2 v3 v4 v5 v6 v7 v8 v9 v10)))) 1764 (some (.box sr6Obj))⟩) = some (rowI 0 0 [v4, x0], [some (.box sr6Obj), some (.box (sr6P x0 x1 v4 x0 v5 v6 v7 v8 v9 (wrap64R (addI x0 x1)) (wrap64R (addI x0 x1)))), some (.box sr6Mem)]) := by kernel_rfl
theorem sr6_st5 (v0 v1 v2 v3 v4 v5 v6 v7 v8 v9 v10 x0 x1 x2 x3 x4 : Int) : seeR [1764, 1757, 1744] (callX E1 2000 27 [.ptr 1764 0, rowI 0 0 [x0, x1, x2, x3, x4]] ⟨1768, T.set (T.set (T.set T.leaf 1744 (some (.box sr6Mem))) 1757 (some (.box (sr6P v0 v1 v2 v3 v4 v5 v6 v7 v8 v9 v10)))) 1764 (some (.box sr6Obj))⟩) = some (rowI 0 0 [v4, x0], [some (.box sr6Obj), some (.box (sr6P x0 x1 v4 x0 v5 v6 v7 v8 v9 (wrap64R (addI x0 x1)) (wrap64R (addI x0 x1)))), some (.box sr6Mem)]) := by kernel_rfl
theorem sr6_okO : okC 1768 (some (.box sr6Obj)) = true := by kernel_rfl
theorem sr6_okM : okC 1768 (some (.box sr6Mem)) = true := by kernel_rfl
theorem sr6_okP (v0 v1 v2 v3 v4 v5 v6 v7 v8 v9 v10 : Int) : okC 1768 (some (.box (sr6P v0 v1 v2 v3 v4 v5 v6 v7 v8 v9 v10))) = true := by kernel_rfl
/-- How it stands after so many instants. -/
def sr6Inv (s : Int) (i : Nat) (S : St) : Prop := 1768 ≤ S.next ∧ S.mem.get 1764 = some (.box sr6Obj) ∧ S.mem.get 1744 = some (.box sr6Mem) ∧ ∃ v0 v1 v2 v3 vl : Int, S.mem.get 1757 = some (.box (sr6P v0 v1 v2 v3 (qv s 6 i 1) (qv s 6 i 2) (qv s 6 i 3) (qv s 6 i 4) (qv s 6 i 5) (qv s 6 i 6) vl))
theorem sr6_in {S : St} {na : AV} {cs : List AV} (ha : ltL 1768 [.ptr 1764 0, na] = true) (hn : 1768 ≤ S.next) (ho : S.mem.get 1764 = some (.box sr6Obj)) (hm : S.mem.get 1744 = some (.box sr6Mem)) (hp : S.mem.get 1757 = some (.box cs)) (hk : okC 1768 (some (.box cs)) = true) :
    smallIn 1768 [1764, 1757, 1744] [.ptr 1764 0, na] S = true ∧ subM S [1764, 1757, 1744] = T.set (T.set (T.set T.leaf 1744 (some (.box sr6Mem))) 1757 (some (.box cs))) 1764 (some (.box sr6Obj)) := by
  refine ⟨?_, by simp only [subM, ho, hp, hm]⟩
  unfold smallIn
  simp only [List.all_cons, List.all_nil, ho, hp, hm, sr6_okO, sr6_okM, hk, ha, Bool.and_true, Nat.ble_eq_true_of_le hn]
  rfl
theorem sr6_does (na : AV) (l : List Int) (hna : isRowI na l) (hl : l.length ≤ 5) : Does 1768 1764 [1764, 1757, 1744] na 6 (firstI l 0) (firstI l 1) (sr6Inv (IntKind.i64.wrap (firstI l 0 + firstI l 1))) := by
  intro i S hi hI
  obtain ⟨hn, ho, hm, v0, v1, v2, v3, vl, hp⟩ := hI
  have hsum := sum_eq (firstI l 0) (firstI l 1)
  have hq := qv_want 6 i (firstI l 0) (firstI l 1)
  generalize hs : IntKind.i64.wrap (firstI l 0 + firstI l 1) = s at hsum hq hp ⊢
  rcases hna with ⟨rfl, rfl⟩ | rfl
  · skip
    obtain ⟨q1, q2⟩ := sr6_in (na := .nils) (by kernel_rfl) hn ho hm hp (sr6_okP ..)
    obtain ⟨S', r1, r2, r3, r4⟩ := via_eq (k := 27) q1 (by rw [q2]; exact sr6_stn ..) (by simp only [List.all_cons, List.all_nil, sr6_okO, sr6_okM, sr6_okP, Bool.and_true])
    simp only [List.map_cons, List.map_nil, List.cons.injEq, and_true] at r4
    have hsum : wrap64R (addI 0 0) = s := hsum
    rw [hsum] at r4
    refine ⟨S', r1.trans ?_, by omega, r4.1, r4.2.2, 0, 0, qv s 6 i 1, 0, s, ?_⟩
    · exact congrArg (fun y => R.ret (rowI 0 0 [y, 0]) S') hq
    · simp only [qv_succ, Nat.reduceAdd, qv_last6]
      exact r4.2.1
  · match l, hl with
    | [], _ =>
      obtain ⟨q1, q2⟩ := sr6_in (na := rowI 0 0 []) (by kernel_rfl) hn ho hm hp (sr6_okP ..)
      obtain ⟨S', r1, r2, r3, r4⟩ := via_eq (k := 27) q1 (by rw [q2]; exact sr6_st0 ..) (by simp only [List.all_cons, List.all_nil, sr6_okO, sr6_okM, sr6_okP, Bool.and_true])
      simp only [List.map_cons, List.map_nil, List.cons.injEq, and_true] at r4
      have hsum : wrap64R (addI 0 0) = s := hsum
      rw [hsum] at r4
      refine ⟨S', r1.trans ?_, by omega, r4.1, r4.2.2, 0, 0, qv s 6 i 1, 0, s, ?_⟩
      · exact congrArg (fun y => R.ret (rowI 0 0 [y, 0]) S') hq
      · simp only [qv_succ, Nat.reduceAdd, qv_last6]
        exact r4.2.1
    | [x0], _ =>
      obtain ⟨q1, q2⟩ := sr6_in (na := rowI 0 0 [x0]) (by kernel_rfl) hn ho hm hp (sr6_okP ..)
      obtain ⟨S', r1, r2, r3, r4⟩ := via_eq (k := 27) q1 (by rw [q2]; exact sr6_st1 ..) (by simp only [List.all_cons, List.all_nil, sr6_okO, sr6_okM, sr6_okP, Bool.and_true])
      simp only [List.map_cons, List.map_nil, List.cons.injEq, and_true] at r4
      have hsum : wrap64R (addI x0 0) = s := hsum
      rw [hsum] at r4
      refine ⟨S', r1.trans ?_, by omega, r4.1, r4.2.2, x0, 0, qv s 6 i 1, x0, s, ?_⟩
      · exact congrArg (fun y => R.ret (rowI 0 0 [y, x0]) S') hq
      · simp only [qv_succ, Nat.reduceAdd, qv_last6]
        exact r4.2.1
    | [x0, x1], _ =>
      obtain ⟨q1, q2⟩ := sr6_in (na := rowI 0 0 [x0, x1]) (by kernel_rfl) hn ho hm hp (sr6_okP ..)
      obtain ⟨S', r1, r2, r3, r4⟩ := via_eq (k := 27) q1 (by rw [q2]; exact sr6_st2 ..) (by simp only [List.all_cons, List.all_nil, sr6_okO, sr6_okM, sr6_okP, Bool.and_true])
      simp only [List.map_cons, List.map_nil, List.cons.injEq, and_true] at r4
      have hsum : wrap64R (addI x0 x1) = s := hsum
      rw [hsum] at r4
      refine ⟨S', r1.trans ?_, by omega, r4.1, r4.2.2, x0, x1, qv s 6 i 1, x0, s, ?_⟩
      · exact congrArg (fun y => R.ret (rowI 0 0 [y, x0]) S') hq
      · simp only [qv_succ, Nat.reduceAdd, qv_last6]
        exact r4.2.1
    | [x0, x1, x2], _ =>
      obtain ⟨q1, q2⟩ := sr6_in (na := rowI 0 0 [x0, x1, x2]) (by kernel_rfl) hn ho hm hp (sr6_okP ..)
      obtain ⟨S', r1, r2, r3, r4⟩ := via_eq (k := 27) q1 (by rw [q2]; exact sr6_st3 ..) (by simp only [List.all_cons, List.all_nil, sr6_okO, sr6_okM, sr6_okP, Bool.and_true])
      simp only [List.map_cons, List.map_nil, List.cons.injEq, and_true] at r4
      have hsum : wrap64R (addI x0 x1) = s := hsum
      rw [hsum] at r4
      refine ⟨S', r1.trans ?_, by omega, r4.1, r4.2.2, x0, x1, qv s 6 i 1, x0, s, ?_⟩
      · exact congrArg (fun y => R.ret (rowI 0 0 [y, x0]) S') hq
      · simp only [qv_succ, Nat.reduceAdd, qv_last6]
        exact r4.2.1
    | [x0, x1, x2, x3], _ =>
      obtain ⟨q1, q2⟩ := sr6_in (na := rowI 0 0 [x0, x1, x2, x3]) (by kernel_rfl) hn ho hm hp (sr6_okP ..)
      obtain ⟨S', r1, r2, r3, r4⟩ := via_eq (k := 27) q1 (by rw [q2]; exact sr6_st4 ..) (by simp only [List.all_cons, List.all_nil, sr6_okO, sr6_okM, sr6_okP, Bool.and_true])
      simp only [List.map_cons, List.map_nil, List.cons.injEq, and_true] at r4
      have hsum : wrap64R (addI x0 x1) = s := hsum
      rw [hsum] at r4
      refine ⟨S', r1.trans ?_, by omega, r4.1, r4.2.2, x0, x1, qv s 6 i 1, x0, s, ?_⟩
      · exact congrArg (fun y => R.ret (rowI 0 0 [y, x0]) S') hq
      · simp only [qv_succ, Nat.reduceAdd, qv_last6]
        exact r4.2.1
    | [x0, x1, x2, x3, x4], _ =>
      obtain ⟨q1, q2⟩ := sr6_in (na := rowI 0 0 [x0, x1, x2, x3, x4]) (by kernel_rfl) hn ho hm hp (sr6_okP ..)
      obtain ⟨S', r1, r2, r3, r4⟩ := via_eq (k := 27) q1 (by rw [q2]; exact sr6_st5 ..) (by simp only [List.all_cons, List.all_nil, sr6_okO, sr6_okM, sr6_okP, Bool.and_true])
      simp only [List.map_cons, List.map_nil, List.cons.injEq, and_true] at r4
      have hsum : wrap64R (addI x0 x1) = s := hsum
      rw [hsum] at r4
      refine ⟨S', r1.trans ?_, by omega, r4.1, r4.2.2, x0, x1, qv s 6 i 1, x0, s, ?_⟩
      · exact congrArg (fun y => R.ret (rowI 0 0 [y, x0]) S') hq
      · simp only [qv_succ, Nat.reduceAdd, qv_last6]
        exact r4.2.1
    | _ :: _ :: _ :: _ :: _ :: _ :: _, h => exact absurd h (by simp)
theorem sr6_start (na : AV) (s : Int) : (outF (srO4 na 6)).get 0 = some na ∧ (outF (srO4 na 6)).get 1 = some (.v (.int .i64 6)) ∧ (outF (srO4 na 6)).get 8 = some (.ptr 1764 0) ∧ (outF (srO4 na 6)).get 9 = some (.v (.bool true)) ∧ sr6Inv s 0 (outS (srO4 na 6)) := by
  obtain ⟨_, h2, h3, h4⟩ := lookO_spec (sr6_ok na)
  simp only [List.map_cons, List.map_nil, List.cons.injEq, and_true] at h3 h4
  exact ⟨h3.1, h3.2.1, h3.2.2.1, h3.2.2.2, by omega, h4.1, h4.2.2, 0, 0, 0, 0, 0, h4.2.1⟩
theorem sr6_rest (na : AV) (l : List Int) (hna : isRowI na l) (hl : l.length ≤ 5) : ∃ (N : Nat) (ids : List Nat), W (E2 N ids) 75 srRest ⟨outF (srO4 na 6), []⟩ (outS (srO4 na 6)) (fun r => ∃ f' S', r = .out .ret ⟨f', []⟩ S' ∧ f'.get 4 = some (.v (.bool true))) := by
  obtain ⟨g0, g1, g8, g9, gS⟩ := sr6_start na (IntKind.i64.wrap (firstI l 0 + firstI l 1))
  exact ⟨1768, [1764, 1757, 1744], sr_rest 1768 1764 [1764, 1757, 1744] na l hna 6 _ (sr6_does na l hna hl) _ _ g0 g1 g8 g9 gS⟩
end Go.Ax
