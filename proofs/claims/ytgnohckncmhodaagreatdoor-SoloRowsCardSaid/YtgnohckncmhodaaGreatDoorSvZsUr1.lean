/-
  SoloRows with 1 delays: its unit, an instant of it.
-/
import Derived.Test.YtgnohckncmhodaaGreatDoorSvG10
set_option linter.unusedVariables false
set_option linter.unusedSimpArgs false
set_option maxHeartbeats 16000000
noncomputable section
namespace Go.Ax
open Go.RowKit Go.Proofs
set_option linter.unusedVariables false
set_option linter.unusedSimpArgs false
set_option maxRecDepth 100000
def sr1Obj : List AV := [.v (.string ⟨#[]⟩), .v (.int .i64 (0)), .v (.int .i64 (0)), .sl 841 0 1 [.v (.int .i64 (0)), .v (.int .i64 (1))], .sl 842 0 1 [.v (.int .i64 (2)), .v (.int .i64 (3))], .sl 857 0 4 [.agg [.v (.string ⟨#[43]⟩), .v (.int .i64 (5)), .sl 846 0 3 [.agg [.v (.bool false), .v (.int .i64 (0)), .v (.int .i64 (0))], .agg [.v (.bool false), .v (.int .i64 (0)), .v (.int .i64 (1))]], .nils], .agg [.v (.string ⟨#[99, 111, 112, 121]⟩), .v (.int .i64 (2)), .sl 848 0 3 [.agg [.v (.bool false), .v (.int .i64 (0)), .v (.int .i64 (4))]], .nils], .agg [.v (.string ⟨#[99, 111, 112, 121]⟩), .v (.int .i64 (3)), .sl 850 0 3 [.agg [.v (.bool false), .v (.int .i64 (0)), .v (.int .i64 (0))]], .nils]], .bs 844 0 1 6, .nils, .nils, .v (.int .i64 (0)), .bs 852 0 6 1]
def sr1Mem : List AV := [.v (.int .i64 (4)), .v (.int .i64 (7)), .v (.bool false), .v (.int .i64 (0)), .v (.int .i64 (5)), .nils]
def sr1P (v0 v1 v2 v3 v4 v5 : Int) : List AV := [i64A v0, i64A v1, i64A v2, i64A v3, i64A v4, i64A v5]
theorem sr1_ok (na : AV) : lookO [854, 852, 844] [0, 1, 8, 9] (srO4 na 1) = some (858, [some na, some (.v (.int .i64 1)), some (.ptr 854 0), some (.v (.bool true))], [some (.box sr1Obj), some (.box (sr1P 0 0 0 0 7 0)), some (.box sr1Mem)]) := by kernel_rfl
theorem sr1_stn (v0 v1 v2 v3 v4 v5 : Int) : seeR [854, 852, 844] (callX E1 2000 27 [.ptr 854 0, .nils] ⟨858, T.set (T.set (T.set T.leaf 844 (some (.box sr1Mem))) 852 (some (.box (sr1P v0 v1 v2 v3 v4 v5)))) 854 (some (.box sr1Obj))⟩) = some (rowI 0 0 [v4, 0], [some (.box sr1Obj), some (.box (sr1P 0 0 v4 0 (wrap64R (addI 0 0)) (wrap64R (addI 0 0)))), some (.box sr1Mem)]) := by kernel_rfl
theorem sr1_st0 (v0 v1 v2 v3 v4 v5 : Int) : seeR [854, 852, 844] (callX E1 2000 27 [.ptr 854 0, rowI 0 0 []] ⟨858, T.set (T.set (T.set T.leaf 844 (some (.box sr1Mem))) 852 (some (.box (sr1P v0 v1 v2 v3 v4 v5)))) 854 (some (.box sr1Obj))⟩) = some (rowI 0 0 [v4, 0], [some (.box sr1Obj), some (.box (sr1P 0 0 v4 0 (wrap64R (addI 0 0)) (wrap64R (addI 0 0)))), some (.box sr1Mem)]) := by kernel_rfl
theorem sr1_st1 (v0 v1 v2 v3 v4 v5 x0 : Int) : seeR [854, 852, 844] (callX E1 2000 27 [.ptr 854 0, rowI 0 0 [x0]] ⟨858, T.set (T.set (T.set T.leaf 844 (some (.box sr1Mem))) 852 (some (.box (sr1P v0 v1 v2 v3 v4 v5)))) 854 (some (.box sr1Obj))⟩) = some (rowI 0 0 [v4, x0], [some (.box sr1Obj), some (.box (sr1P x0 0 v4 x0 (wrap64R (addI x0 0)) (wrap64R (addI x0 0)))), some (.box sr1Mem)]) := by kernel_rfl
theorem sr1_st2 (v0 v1 v2 v3 v4 v5 x0 x1 : Int) : seeR [854, 852, 844] (callX E1 2000 27 [.ptr 854 0, rowI 0 0 [x0, x1]] ⟨858, T.set (T.set (T.set T.leaf 844 (some (.box sr1Mem))) 852 (some (.box (sr1P v0 v1 v2 v3 v4 v5)))) 854 (some (.box sr1Obj))⟩) = some (rowI 0 0 [v4, x0], [some (.box sr1Obj), some (.box (sr1P x0 x1 v4 x0 (wrap64R (addI x0 x1)) (wrap64R (addI x0 x1)))), some (.box sr1Mem)]) := by kernel_rfl
theorem sr1_st3 (v0 v1 v2 v3 v4 v5 x0 x1 x2 : Int) : seeR [854, 852, 844] (callX E1 2000 27 [.ptr 854 0, rowI 0 0 [x0, x1, x2]] ⟨858, T.set (T.set (T.set T.leaf 844 (some (.box sr1Mem))) 852 (some (.box (sr1P v0 v1 v2 v3 v4 v5)))) 854 (some (.box sr1Obj))⟩) = some (rowI 0 0 [v4, x0], [some (.box sr1Obj), some (.box (sr1P x0 x1 v4 x0 (wrap64R (addI x0 x1)) (wrap64R (addI x0 x1)))), some (.box sr1Mem)]) := by kernel_rfl
theorem sr1_st4 (v0 v1 v2 v3 v4 v5 x0 x1 x2 x3 : Int) : seeR [854, 852, 844] (callX E1 2000 27 [.ptr 854 0, rowI 0 0 [x0, x1, x2, x3]] ⟨858, T.set (T.set (T.set T.leaf 844 (some (.box sr1Mem))) 852 (some (.box (sr1P v0 v1 v2 v3 v4 v5)))) 854 (some (.box sr1Obj))⟩) = some (rowI 0 0 [v4, x0], [some (.box sr1Obj), some (.box (sr1P x0 x1 v4 x0 (wrap64R (addI x0 x1)) (wrap64R (addI x0 x1)))), some (.box sr1Mem)]) := by kernel_rfl
theorem sr1_st5 (v0 v1 v2 v3 v4 v5 x0 x1 x2 x3 x4 : Int) : seeR [854, 852, 844] (callX E1 2000 27 [.ptr 854 0, rowI 0 0 [x0, x1, x2, x3, x4]] ⟨858, T.set (T.set (T.set T.leaf 844 (some (.box sr1Mem))) 852 (some (.box (sr1P v0 v1 v2 v3 v4 v5)))) 854 (some (.box sr1Obj))⟩) = some (rowI 0 0 [v4, x0], [some (.box sr1Obj), some (.box (sr1P x0 x1 v4 x0 (wrap64R (addI x0 x1)) (wrap64R (addI x0 x1)))), some (.box sr1Mem)]) := by kernel_rfl
theorem sr1_okO : okC 858 (some (.box sr1Obj)) = true := by kernel_rfl
theorem sr1_okM : okC 858 (some (.box sr1Mem)) = true := by kernel_rfl
theorem sr1_okP (v0 v1 v2 v3 v4 v5 : Int) : okC 858 (some (.box (sr1P v0 v1 v2 v3 v4 v5))) = true := by kernel_rfl
/-- How it stands after so many instants. -/
def sr1Inv (s : Int) (i : Nat) (S : St) : Prop := 858 ≤ S.next ∧ S.mem.get 854 = some (.box sr1Obj) ∧ S.mem.get 844 = some (.box sr1Mem) ∧ ∃ v0 v1 v2 v3 vl : Int, S.mem.get 852 = some (.box (sr1P v0 v1 v2 v3 (qv s 1 i 1) vl))
theorem sr1_in {S : St} {na : AV} {cs : List AV} (ha : ltL 858 [.ptr 854 0, na] = true) (hn : 858 ≤ S.next) (ho : S.mem.get 854 = some (.box sr1Obj)) (hm : S.mem.get 844 = some (.box sr1Mem)) (hp : S.mem.get 852 = some (.box cs)) (hk : okC 858 (some (.box cs)) = true) :
    smallIn 858 [854, 852, 844] [.ptr 854 0, na] S = true ∧ subM S [854, 852, 844] = T.set (T.set (T.set T.leaf 844 (some (.box sr1Mem))) 852 (some (.box cs))) 854 (some (.box sr1Obj)) := by
  refine ⟨?_, by simp only [subM, ho, hp, hm]⟩
  unfold smallIn
  simp only [List.all_cons, List.all_nil, ho, hp, hm, sr1_okO, sr1_okM, hk, ha, Bool.and_true, Nat.ble_eq_true_of_le hn]
  rfl
theorem sr1_does (na : AV) (l : List Int) (hna : isRowI na l) (hl : l.length ≤ 5) : Does 858 854 [854, 852, 844] na 1 (firstI l 0) (firstI l 1) (sr1Inv (IntKind.i64.wrap (firstI l 0 + firstI l 1))) := by
  intro i S hi hI
  obtain ⟨hn, ho, hm, v0, v1, v2, v3, vl, hp⟩ := hI
  have hsum := sum_eq (firstI l 0) (firstI l 1)
  have hq := qv_want 1 i (firstI l 0) (firstI l 1)
  generalize hs : IntKind.i64.wrap (firstI l 0 + firstI l 1) = s at hsum hq hp ⊢
  rcases hna with ⟨rfl, rfl⟩ | rfl
  · skip
    obtain ⟨q1, q2⟩ := sr1_in (na := .nils) (by kernel_rfl) hn ho hm hp (sr1_okP ..)
    obtain ⟨S', r1, r2, r3, r4⟩ := via_eq (k := 27) q1 (by rw [q2]; exact sr1_stn ..) (by simp only [List.all_cons, List.all_nil, sr1_okO, sr1_okM, sr1_okP, Bool.and_true])
    simp only [List.map_cons, List.map_nil, List.cons.injEq, and_true] at r4
    have hsum : wrap64R (addI 0 0) = s := hsum
    rw [hsum] at r4
    refine ⟨S', r1.trans ?_, by omega, r4.1, r4.2.2, 0, 0, qv s 1 i 1, 0, s, ?_⟩
    · exact congrArg (fun y => R.ret (rowI 0 0 [y, 0]) S') hq
    · simp only [qv_succ, Nat.reduceAdd, qv_last1]
      exact r4.2.1
  · match l, hl with
    | [], _ =>
      obtain ⟨q1, q2⟩ := sr1_in (na := rowI 0 0 []) (by kernel_rfl) hn ho hm hp (sr1_okP ..)
      obtain ⟨S', r1, r2, r3, r4⟩ := via_eq (k := 27) q1 (by rw [q2]; exact sr1_st0 ..) (by simp only [List.all_cons, List.all_nil, sr1_okO, sr1_okM, sr1_okP, Bool.and_true])
      simp only [List.map_cons, List.map_nil, List.cons.injEq, and_true] at r4
      have hsum : wrap64R (addI 0 0) = s := hsum
      rw [hsum] at r4
      refine ⟨S', r1.trans ?_, by omega, r4.1, r4.2.2, 0, 0, qv s 1 i 1, 0, s, ?_⟩
      · exact congrArg (fun y => R.ret (rowI 0 0 [y, 0]) S') hq
      · simp only [qv_succ, Nat.reduceAdd, qv_last1]
        exact r4.2.1
    | [x0], _ =>
      obtain ⟨q1, q2⟩ := sr1_in (na := rowI 0 0 [x0]) (by kernel_rfl) hn ho hm hp (sr1_okP ..)
      obtain ⟨S', r1, r2, r3, r4⟩ := via_eq (k := 27) q1 (by rw [q2]; exact sr1_st1 ..) (by simp only [List.all_cons, List.all_nil, sr1_okO, sr1_okM, sr1_okP, Bool.and_true])
      simp only [List.map_cons, List.map_nil, List.cons.injEq, and_true] at r4
      have hsum : wrap64R (addI x0 0) = s := hsum
      rw [hsum] at r4
      refine ⟨S', r1.trans ?_, by omega, r4.1, r4.2.2, x0, 0, qv s 1 i 1, x0, s, ?_⟩
      · exact congrArg (fun y => R.ret (rowI 0 0 [y, x0]) S') hq
      · simp only [qv_succ, Nat.reduceAdd, qv_last1]
        exact r4.2.1
    | [x0, x1], _ =>
      obtain ⟨q1, q2⟩ := sr1_in (na := rowI 0 0 [x0, x1]) (by kernel_rfl) hn ho hm hp (sr1_okP ..)
      obtain ⟨S', r1, r2, r3, r4⟩ := via_eq (k := 27) q1 (by rw [q2]; exact sr1_st2 ..) (by simp only [List.all_cons, List.all_nil, sr1_okO, sr1_okM, sr1_okP, Bool.and_true])
      simp only [List.map_cons, List.map_nil, List.cons.injEq, and_true] at r4
      have hsum : wrap64R (addI x0 x1) = s := hsum
      rw [hsum] at r4
      refine ⟨S', r1.trans ?_, by omega, r4.1, r4.2.2, x0, x1, qv s 1 i 1, x0, s, ?_⟩
      · exact congrArg (fun y => R.ret (rowI 0 0 [y, x0]) S') hq
      · simp only [qv_succ, Nat.reduceAdd, qv_last1]
        exact r4.2.1
    | [x0, x1, x2], _ =>
      obtain ⟨q1, q2⟩ := sr1_in (na := rowI 0 0 [x0, x1, x2]) (by kernel_rfl) hn ho hm hp (sr1_okP ..)
      obtain ⟨S', r1, r2, r3, r4⟩ := via_eq (k := 27) q1 (by rw [q2]; exact sr1_st3 ..) (by simp only [List.all_cons, List.all_nil, sr1_okO, sr1_okM, sr1_okP, Bool.and_true])
      simp only [List.map_cons, List.map_nil, List.cons.injEq, and_true] at r4
      have hsum : wrap64R (addI x0 x1) = s := hsum
      rw [hsum] at r4
      refine ⟨S', r1.trans ?_, by omega, r4.1, r4.2.2, x0, x1, qv s 1 i 1, x0, s, ?_⟩
      · exact congrArg (fun y => R.ret (rowI 0 0 [y, x0]) S') hq
      · simp only [qv_succ, Nat.reduceAdd, qv_last1]
        exact r4.2.1
    | [x0, x1, x2, x3], _ =>
      obtain ⟨q1, q2⟩ := sr1_in (na := rowI 0 0 [x0, x1, x2, x3]) (by kernel_rfl) hn ho hm hp (sr1_okP ..)
      obtain ⟨S', r1, r2, r3, r4⟩ := via_eq (k := 27) q1 (by rw [q2]; exact sr1_st4 ..) (by simp only [List.all_cons, List.all_nil, sr1_okO, sr1_okM, sr1_okP, Bool.and_true])
      simp only [List.map_cons, List.map_nil, List.cons.injEq, and_true] at r4
      have hsum : wrap64R (addI x0 x1) = s := hsum
      rw [hsum] at r4
      refine ⟨S', r1.trans ?_, by omega, r4.1, r4.2.2, x0, x1, qv s 1 i 1, x0, s, ?_⟩
      · exact congrArg (fun y => R.ret (rowI 0 0 [y, x0]) S') hq
      · simp only [qv_succ, Nat.reduceAdd, qv_last1]
        exact r4.2.1
    | [x0, x1, x2, x3, x4], _ =>
      obtain ⟨q1, q2⟩ := sr1_in (na := rowI 0 0 [x0, x1, x2, x3, x4]) (by kernel_rfl) hn ho hm hp (sr1_okP ..)
      obtain ⟨S', r1, r2, r3, r4⟩ := via_eq (k := 27) q1 (by rw [q2]; exact sr1_st5 ..) (by simp only [List.all_cons, List.all_nil, sr1_okO, sr1_okM, sr1_okP, Bool.and_true])
      simp only [List.map_cons, List.map_nil, List.cons.injEq, and_true] at r4
      have hsum : wrap64R (addI x0 x1) = s := hsum
      rw [hsum] at r4
      refine ⟨S', r1.trans ?_, by omega, r4.1, r4.2.2, x0, x1, qv s 1 i 1, x0, s, ?_⟩
      · exact congrArg (fun y => R.ret (rowI 0 0 [y, x0]) S') hq
      · simp only [qv_succ, Nat.reduceAdd, qv_last1]
        exact r4.2.1
    | _ :: _ :: _ :: _ :: _ :: _ :: _, h => exact absurd h (by simp)
theorem sr1_start (na : AV) (s : Int) : (outF (srO4 na 1)).get 0 = some na ∧ (outF (srO4 na 1)).get 1 = some (.v (.int .i64 1)) ∧ (outF (srO4 na 1)).get 8 = some (.ptr 854 0) ∧ (outF (srO4 na 1)).get 9 = some (.v (.bool true)) ∧ sr1Inv s 0 (outS (srO4 na 1)) := by
  obtain ⟨_, h2, h3, h4⟩ := lookO_spec (sr1_ok na)
  simp only [List.map_cons, List.map_nil, List.cons.injEq, and_true] at h3 h4
  exact ⟨h3.1, h3.2.1, h3.2.2.1, h3.2.2.2, by omega, h4.1, h4.2.2, 0, 0, 0, 0, 0, h4.2.1⟩
theorem sr1_rest (na : AV) (l : List Int) (hna : isRowI na l) (hl : l.length ≤ 5) : ∃ (N : Nat) (ids : List Nat), W (E2 N ids) 75 srRest ⟨outF (srO4 na 1), []⟩ (outS (srO4 na 1)) (fun r => ∃ f' S', r = .out .ret ⟨f', []⟩ S' ∧ f'.get 4 = some (.v (.bool true))) := by
  obtain ⟨g0, g1, g8, g9, gS⟩ := sr1_start na (IntKind.i64.wrap (firstI l 0 + firstI l 1))
  exact ⟨858, [854, 852, 844], sr_rest 858 854 [854, 852, 844] na l hna 1 _ (sr1_does na l hna hl) _ _ g0 g1 g8 g9 gS⟩
end Go.Ax
