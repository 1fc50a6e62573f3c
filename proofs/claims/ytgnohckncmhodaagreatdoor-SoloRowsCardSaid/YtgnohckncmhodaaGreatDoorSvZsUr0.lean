/-
  SoloRows with 0 delays: its unit, an instant of it.
-/
import Derived.Test.YtgnohckncmhodaaGreatDoorSvG10
set_option linter.unusedVariables false
set_option linter.unusedSimpArgs false
set_option maxHeartbeats 16000000
noncomputable section
namespace Go.Ax
open Go.RowKit Go.Proofs
set_option linter.unusedVariables false
set_option linter.unusedSimpArgs false
set_option maxRecDepth 100000
def sr0Obj : List AV := [.v (.string ⟨#[]⟩), .v (.int .i64 (0)), .v (.int .i64 (0)), .sl 661 0 1 [.v (.int .i64 (0)), .v (.int .i64 (1))], .sl 662 0 1 [.v (.int .i64 (2)), .v (.int .i64 (3))], .sl 674 0 4 [.agg [.v (.string ⟨#[43]⟩), .v (.int .i64 (4)), .sl 665 0 3 [.agg [.v (.bool false), .v (.int .i64 (0)), .v (.int .i64 (0))], .agg [.v (.bool false), .v (.int .i64 (0)), .v (.int .i64 (1))]], .nils], .agg [.v (.string ⟨#[99, 111, 112, 121]⟩), .v (.int .i64 (2)), .sl 667 0 3 [.agg [.v (.bool false), .v (.int .i64 (0)), .v (.int .i64 (4))]], .nils], .agg [.v (.string ⟨#[99, 111, 112, 121]⟩), .v (.int .i64 (3)), .sl 669 0 3 [.agg [.v (.bool false), .v (.int .i64 (0)), .v (.int .i64 (0))]], .nils]], .nils, .nils, .nils, .v (.int .i64 (0)), .bs 670 0 5 1]
def sr0P (v0 v1 v2 v3 v4 : Int) : List AV := [i64A v0, i64A v1, i64A v2, i64A v3, i64A v4]
theorem sr0_ok (na : AV) : lookO [671, 670] [0, 1, 8, 9] (srO4 na 0) = some (675, [some na, some (.v (.int .i64 0)), some (.ptr 671 0), some (.v (.bool true))], [some (.box sr0Obj), some (.box (sr0P 0 0 0 0 0))]) := by kernel_rfl
theorem sr0_stn (v0 v1 v2 v3 v4 : Int) : seeR [671, 670] (callX E1 2000 27 [.ptr 671 0, .nils] ⟨675, T.set (T.set T.leaf 670 (some (.box (sr0P v0 v1 v2 v3 v4)))) 671 (some (.box sr0Obj))⟩) = some (rowI 0 0 [(wrap64R (addI 0 0)), 0], [some (.box sr0Obj), some (.box (sr0P 0 0 (wrap64R (addI 0 0)) 0 (wrap64R (addI 0 0))))]) := by kernel_rfl
theorem sr0_st0 (v0 v1 v2 v3 v4 : Int) : seeR [671, 670] (callX E1 2000 27 [.ptr 671 0, rowI 0 0 []] ⟨675, T.set (T.set T.leaf 670 (some (.box (sr0P v0 v1 v2 v3 v4)))) 671 (some (.box sr0Obj))⟩) = some (rowI 0 0 [(wrap64R (addI 0 0)), 0], [some (.box sr0Obj), some (.box (sr0P 0 0 (wrap64R (addI 0 0)) 0 (wrap64R (addI 0 0))))]) := by kernel_rfl
theorem sr0_st1 (v0 v1 v2 v3 v4 x0 : Int) : seeR [671, 670] (callX E1 2000 27 [.ptr 671 0, rowI 0 0 [x0]] ⟨675, T.set (T.set T.leaf 670 (some (.box (sr0P v0 v1 v2 v3 v4)))) 671 (some (.box sr0Obj))⟩) = some (rowI 0 0 [(wrap64R (addI x0 0)), x0], [some (.box sr0Obj), some (.box (sr0P x0 0 (wrap64R (addI x0 0)) x0 (wrap64R (addI x0 0))))]) := by kernel_rfl
theorem sr0_st2 (v0 v1 v2 v3 v4 x0 x1 : Int) : seeR [671, 670] (callX E1 2000 27 [.ptr 671 0, rowI 0 0 [x0, x1]] ⟨675, T.set (T.set T.leaf 670 (some (.box (sr0P v0 v1 v2 v3 v4)))) 671 (some (.box sr0Obj))⟩) = some (rowI 0 0 [(wrap64R (addI x0 x1)), x0], [some (.box sr0Obj), some (.box (sr0P x0 x1 (wrap64R (addI x0 x1)) x0 (wrap64R (addI x0 x1))))]) := by kernel_rfl
theorem sr0_st3 (v0 v1 v2 v3 v4 x0 x1 x2 : Int) : seeR [671, 670] (callX E1 2000 27 [.ptr 671 0, rowI 0 0 [x0, x1, x2]] ⟨675, T.set (T.set T.leaf 670 (some (.box (sr0P v0 v1 v2 v3 v4)))) 671 (some (.box sr0Obj))⟩) = some (rowI 0 0 [(wrap64R (addI x0 x1)), x0], [some (.box sr0Obj), some (.box (sr0P x0 x1 (wrap64R (addI x0 x1)) x0 (wrap64R (addI x0 x1))))]) := by kernel_rfl
theorem sr0_st4 (v0 v1 v2 v3 v4 x0 x1 x2 x3 : Int) : seeR [671, 670] (callX E1 2000 27 [.ptr 671 0, rowI 0 0 [x0, x1, x2, x3]] ⟨675, T.set (T.set T.leaf 670 (some (.box (sr0P v0 v1 v2 v3 v4)))) 671 (some (.box sr0Obj))⟩) = some (rowI 0 0 [(wrap64R (addI x0 x1)), x0], [some (.box sr0Obj), some (.box (sr0P x0 x1 (wrap64R (addI x0 x1)) x0 (wrap64R (addI x0 x1))))]) := by kernel_rfl
theorem sr0_st5 (v0 v1 v2 v3 v4 x0 x1 x2 x3 x4 : Int) : seeR [671, 670] (callX E1 2000 27 [.ptr 671 0, rowI 0 0 [x0, x1, x2, x3, x4]] ⟨675, T.set (T.set T.leaf 670 (some (.box (sr0P v0 v1 v2 v3 v4)))) 671 (some (.box sr0Obj))⟩) = some (rowI 0 0 [(wrap64R (addI x0 x1)), x0], [some (.box sr0Obj), some (.box (sr0P x0 x1 (wrap64R (addI x0 x1)) x0 (wrap64R (addI x0 x1))))]) := by kernel_rfl
theorem sr0_okO : okC 675 (some (.box sr0Obj)) = true := by kernel_rfl
theorem sr0_okP (v0 v1 v2 v3 v4 : Int) : okC 675 (some (.box (sr0P v0 v1 v2 v3 v4))) = true := by kernel_rfl
/-- How it stands after so many instants. -/
def sr0Inv (s : Int) (i : Nat) (S : St) : Prop := 675 ≤ S.next ∧ S.mem.get 671 = some (.box sr0Obj) ∧ ∃ v0 v1 v2 v3 vl : Int, S.mem.get 670 = some (.box (sr0P v0 v1 v2 v3 vl))
theorem sr0_in {S : St} {na : AV} {cs : List AV} (ha : ltL 675 [.ptr 671 0, na] = true) (hn : 675 ≤ S.next) (ho : S.mem.get 671 = some (.box sr0Obj)) (hp : S.mem.get 670 = some (.box cs)) (hk : okC 675 (some (.box cs)) = true) :
    smallIn 675 [671, 670] [.ptr 671 0, na] S = true ∧ subM S [671, 670] = T.set (T.set T.leaf 670 (some (.box cs))) 671 (some (.box sr0Obj)) := by
  refine ⟨?_, by simp only [subM, ho, hp]⟩
  unfold smallIn
  simp only [List.all_cons, List.all_nil, ho, hp, sr0_okO, hk, ha, Bool.and_true, Nat.ble_eq_true_of_le hn]
  rfl
theorem sr0_does (na : AV) (l : List Int) (hna : isRowI na l) (hl : l.length ≤ 5) : Does 675 671 [671, 670] na 0 (firstI l 0) (firstI l 1) (sr0Inv (IntKind.i64.wrap (firstI l 0 + firstI l 1))) := by
  intro i S hi hI
  obtain ⟨hn, ho, v0, v1, v2, v3, vl, hp⟩ := hI
  have hsum := sum_eq (firstI l 0) (firstI l 1)
  have hq := qv_want 0 i (firstI l 0) (firstI l 1)
  generalize hs : IntKind.i64.wrap (firstI l 0 + firstI l 1) = s at hsum hq hp ⊢
  rcases hna with ⟨rfl, rfl⟩ | rfl
  · skip
    obtain ⟨q1, q2⟩ := sr0_in (na := .nils) (by kernel_rfl) hn ho hp (sr0_okP ..)
    obtain ⟨S', r1, r2, r3, r4⟩ := via_eq (k := 27) q1 (by rw [q2]; exact sr0_stn ..) (by simp only [List.all_cons, List.all_nil, sr0_okO, sr0_okP, Bool.and_true])
    simp only [List.map_cons, List.map_nil, List.cons.injEq, and_true] at r4
    have hsum : wrap64R (addI 0 0) = s := hsum
    rw [hsum] at r4
    rw [hsum] at r1
    refine ⟨S', r1.trans ?_, by omega, r4.1, 0, 0, s, 0, s, ?_⟩
    · rw [← hq, qv_last0]; rfl
    · exact r4.2
  · match l, hl with
    | [], _ =>
      obtain ⟨q1, q2⟩ := sr0_in (na := rowI 0 0 []) (by kernel_rfl) hn ho hp (sr0_okP ..)
      obtain ⟨S', r1, r2, r3, r4⟩ := via_eq (k := 27) q1 (by rw [q2]; exact sr0_st0 ..) (by simp only [List.all_cons, List.all_nil, sr0_okO, sr0_okP, Bool.and_true])
      simp only [List.map_cons, List.map_nil, List.cons.injEq, and_true] at r4
      have hsum : wrap64R (addI 0 0) = s := hsum
      rw [hsum] at r4
      rw [hsum] at r1
      refine ⟨S', r1.trans ?_, by omega, r4.1, 0, 0, s, 0, s, ?_⟩
      · rw [← hq, qv_last0]; rfl
      · exact r4.2
    | [x0], _ =>
      obtain ⟨q1, q2⟩ := sr0_in (na := rowI 0 0 [x0]) (by kernel_rfl) hn ho hp (sr0_okP ..)
      obtain ⟨S', r1, r2, r3, r4⟩ := via_eq (k := 27) q1 (by rw [q2]; exact sr0_st1 ..) (by simp only [List.all_cons, List.all_nil, sr0_okO, sr0_okP, Bool.and_true])
      simp only [List.map_cons, List.map_nil, List.cons.injEq, and_true] at r4
      have hsum : wrap64R (addI x0 0) = s := hsum
      rw [hsum] at r4
      rw [hsum] at r1
      refine ⟨S', r1.trans ?_, by omega, r4.1, x0, 0, s, x0, s, ?_⟩
      · rw [← hq, qv_last0]; rfl
      · exact r4.2
    | [x0, x1], _ =>
      obtain ⟨q1, q2⟩ := sr0_in (na := rowI 0 0 [x0, x1]) (by kernel_rfl) hn ho hp (sr0_okP ..)
      obtain ⟨S', r1, r2, r3, r4⟩ := via_eq (k := 27) q1 (by rw [q2]; exact sr0_st2 ..) (by simp only [List.all_cons, List.all_nil, sr0_okO, sr0_okP, Bool.and_true])
      simp only [List.map_cons, List.map_nil, List.cons.injEq, and_true] at r4
      have hsum : wrap64R (addI x0 x1) = s := hsum
      rw [hsum] at r4
      rw [hsum] at r1
      refine ⟨S', r1.trans ?_, by omega, r4.1, x0, x1, s, x0, s, ?_⟩
      · rw [← hq, qv_last0]; rfl
      · exact r4.2
    | [x0, x1, x2], _ =>
      obtain ⟨q1, q2⟩ := sr0_in (na := rowI 0 0 [x0, x1, x2]) (by kernel_rfl) hn ho hp (sr0_okP ..)
      obtain ⟨S', r1, r2, r3, r4⟩ := via_eq (k := 27) q1 (by rw [q2]; exact sr0_st3 ..) (by simp only [List.all_cons, List.all_nil, sr0_okO, sr0_okP, Bool.and_true])
      simp only [List.map_cons, List.map_nil, List.cons.injEq, and_true] at r4
      have hsum : wrap64R (addI x0 x1) = s := hsum
      rw [hsum] at r4
      rw [hsum] at r1
      refine ⟨S', r1.trans ?_, by omega, r4.1, x0, x1, s, x0, s, ?_⟩
      · rw [← hq, qv_last0]; rfl
      · exact r4.2
    | [x0, x1, x2, x3], _ =>
      obtain ⟨q1, q2⟩ := sr0_in (na := rowI 0 0 [x0, x1, x2, x3]) (by kernel_rfl) hn ho hp (sr0_okP ..)
      obtain ⟨S', r1, r2, r3, r4⟩ := via_eq (k := 27) q1 (by rw [q2]; exact sr0_st4 ..) (by simp only [List.all_cons, List.all_nil, sr0_okO, sr0_okP, Bool.and_true])
      simp only [List.map_cons, List.map_nil, List.cons.injEq, and_true] at r4
      have hsum : wrap64R (addI x0 x1) = s := hsum
      rw [hsum] at r4
      rw [hsum] at r1
      refine ⟨S', r1.trans ?_, by omega, r4.1, x0, x1, s, x0, s, ?_⟩
      · rw [← hq, qv_last0]; rfl
      · exact r4.2
    | [x0, x1, x2, x3, x4], _ =>
      obtain ⟨q1, q2⟩ := sr0_in (na := rowI 0 0 [x0, x1, x2, x3, x4]) (by kernel_rfl) hn ho hp (sr0_okP ..)
      obtain ⟨S', r1, r2, r3, r4⟩ := via_eq (k := 27) q1 (by rw [q2]; exact sr0_st5 ..) (by simp only [List.all_cons, List.all_nil, sr0_okO, sr0_okP, Bool.and_true])
      simp only [List.map_cons, List.map_nil, List.cons.injEq, and_true] at r4
      have hsum : wrap64R (addI x0 x1) = s := hsum
      rw [hsum] at r4
      rw [hsum] at r1
      refine ⟨S', r1.trans ?_, by omega, r4.1, x0, x1, s, x0, s, ?_⟩
      · rw [← hq, qv_last0]; rfl
      · exact r4.2
    | _ :: _ :: _ :: _ :: _ :: _ :: _, h => exact absurd h (by simp)
theorem sr0_start (na : AV) (s : Int) : (outF (srO4 na 0)).get 0 = some na ∧ (outF (srO4 na 0)).get 1 = some (.v (.int .i64 0)) ∧ (outF (srO4 na 0)).get 8 = some (.ptr 671 0) ∧ (outF (srO4 na 0)).get 9 = some (.v (.bool true)) ∧ sr0Inv s 0 (outS (srO4 na 0)) := by
  obtain ⟨_, h2, h3, h4⟩ := lookO_spec (sr0_ok na)
  simp only [List.map_cons, List.map_nil, List.cons.injEq, and_true] at h3 h4
  exact ⟨h3.1, h3.2.1, h3.2.2.1, h3.2.2.2, by omega, h4.1, 0, 0, 0, 0, 0, h4.2⟩
theorem sr0_rest (na : AV) (l : List Int) (hna : isRowI na l) (hl : l.length ≤ 5) : ∃ (N : Nat) (ids : List Nat), W (E2 N ids) 75 srRest ⟨outF (srO4 na 0), []⟩ (outS (srO4 na 0)) (fun r => ∃ f' S', r = .out .ret ⟨f', []⟩ S' ∧ f'.get 4 = some (.v (.bool true))) := by
  obtain ⟨g0, g1, g8, g9, gS⟩ := sr0_start na (IntKind.i64.wrap (firstI l 0 + firstI l 1))
  exact ⟨675, [671, 670], sr_rest 675 671 [671, 670] na l hna 0 _ (sr0_does na l hna hl) _ _ g0 g1 g8 g9 gS⟩
end Go.Ax
