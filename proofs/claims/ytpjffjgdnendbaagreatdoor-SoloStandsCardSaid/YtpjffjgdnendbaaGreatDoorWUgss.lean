/-
  SoloStands: an instant, whatever went before.
-/
import Derived.Test.YtpjffjgdnendbaaGreatDoorWUfss
noncomputable section
namespace Go.Ax
open Go.RowKit Go.Proofs
set_option linter.unusedVariables false
set_option linter.unusedSimpArgs false
set_option maxRecDepth 100000

def gI (i : Nat) : Int := if i = 0 then 1 else 0
def zI (i : Nat) : Int := if i = 0 then 7 else ((3 * i : Nat) : Int)
theorem wr64 {a b : Int} {n : Nat} (h : a + b = (n : Int)) (hn : n ≤ 1000000) : wrap64R (addI a b) = (n : Int) := by
  rw [wrap64R_eq, addI_eq, h]; exact wrap_nat (by omega)
/-- How a unit stands after so many instants. -/
structure SsI (S : St) (i : Nat) : Prop where
  next : 2363 ≤ S.next
  obj : S.mem.get 2300 = some (.box ssObj)
  mem : S.mem.get 2362 = some (.box ssMem)
  pl : ∃ v0 v1 v2 v3 v4 v5 v6 v7 v8 v9 v10 v11 v12 v13 v14 v15 v16 v17 v18 v19 v20 v21 v22 v23 : Int, S.mem.get 2299 = some (.box (ssP v0 v1 v2 v3 v4 v5 v6 v7 v8 v9 v10 v11 v12 v13 v14 v15 v16 v17 v18 v19 v20 v21 v22 v23)) ∧ v7 = gI i ∧ v13 = gI i ∧ v21 = gI i ∧ v9 = (i : Int) ∧ v15 = ((2 * i : Nat) : Int) ∧ v23 = ((3 * i : Nat) : Int) ∧ v17 = zI i
theorem SsI.of {S : St} {i : Nat} {v0 v1 v2 v3 v4 v5 v6 v7 v8 v9 v10 v11 v12 v13 v14 v15 v16 v17 v18 v19 v20 v21 v22 v23 : Int} (hf : 2363 ≤ S.next ∧ S.mem.get 2300 = some (.box ssObj) ∧ S.mem.get 2299 = some (.box (ssP v0 v1 v2 v3 v4 v5 v6 v7 v8 v9 v10 v11 v12 v13 v14 v15 v16 v17 v18 v19 v20 v21 v22 v23)) ∧ S.mem.get 2362 = some (.box ssMem))
    (e : v7 = gI i ∧ v13 = gI i ∧ v21 = gI i ∧ v9 = (i : Int) ∧ v15 = ((2 * i : Nat) : Int) ∧ v23 = ((3 * i : Nat) : Int) ∧ v17 = zI i) : SsI S i :=
  ⟨hf.1, hf.2.1, hf.2.2.2, _, _, _, _, _, _, _, _, _, _, _, _, _, _, _, _, _, _, _, _, _, _, _, _, hf.2.2.1, e⟩
theorem ss_okObj : okC 2363 (some (.box ssObj)) = true := by kernel_rfl
theorem ss_okMem : okC 2363 (some (.box ssMem)) = true := by kernel_rfl
theorem ss_okPl (v0 v1 v2 v3 v4 v5 v6 v7 v8 v9 v10 v11 v12 v13 v14 v15 v16 v17 v18 v19 v20 v21 v22 v23 : Int) : okC 2363 (some (.box (ssP v0 v1 v2 v3 v4 v5 v6 v7 v8 v9 v10 v11 v12 v13 v14 v15 v16 v17 v18 v19 v20 v21 v22 v23))) = true := by kernel_rfl
theorem ss_okArgs (x : Int) : ltL 2363 [.ptr 2300 0, rowI 1 0 [x]] = true := by kernel_rfl
theorem ss_in {S : St} {cs : List AV} (x : Int) (hn : 2363 ≤ S.next) (h1 : S.mem.get 2300 = some (.box ssObj)) (h3 : S.mem.get 2362 = some (.box ssMem)) (h2 : S.mem.get 2299 = some (.box cs)) (hk : okC 2363 (some (.box cs)) = true) :
    smallIn 2363 [2300, 2299, 2362] [.ptr 2300 0, rowI 1 0 [x]] S = true ∧ subM S [2300, 2299, 2362] = T.set (T.set (T.set .leaf 2362 (some (.box ssMem))) 2299 (some (.box cs))) 2300 (some (.box ssObj)) := by
  refine ⟨?_, by simp only [subM, h1, h2, h3]⟩
  unfold smallIn
  simp only [List.all_cons, List.all_nil, h1, h2, h3, ss_okObj, ss_okMem, hk, ss_okArgs, Bool.and_true, Nat.ble_eq_true_of_le hn]
  rfl
theorem ss_fin {S S' : St} {a b c : Cell} (hn : 2363 ≤ S.next) (h2 : S'.next = S.next) (h4 : [2300, 2299, 2362].map S'.mem.get = [some a, some b, some c]) : 2363 ≤ S'.next ∧ S'.mem.get 2300 = some a ∧ S'.mem.get 2299 = some b ∧ S'.mem.get 2362 = some c := by
  simp only [List.map_cons, List.map_nil, List.cons.injEq, and_true] at h4
  exact ⟨by omega, h4.1, h4.2.1, h4.2.2⟩
def bI (b : Bool) : Int := if b then 1 else 0
def yI (b : Bool) (i : Nat) : Int := if b then ((i + 1 : Nat) : Int) else ((2 * (i + 1) : Nat) : Int)
def wI (b : Bool) (i : Nat) : Int := if b then 0 else zI i
theorem ss_round (S : St) (i : Nat) (h : SsI S i) (hi : i ≤ 1000) (b : Bool) :
    ∃ S', viaSmall E1 2000 11 2363 [2300, 2299, 2362] [.ptr 2300 0, rowI 1 0 [bI b]] S = .ret (rowI 0 0 [yI b i, wI b i]) S' ∧ SsI S' (i + 1) ∧ S'.next = S.next ∧ ∀ j, j ∉ [2300, 2299, 2362] → S'.mem.get j = S.mem.get j := by
  obtain ⟨hn, ho, hm, v0, v1, v2, v3, v4, v5, v6, v7, v8, v9, v10, v11, v12, v13, v14, v15, v16, v17, v18, v19, v20, v21, v22, v23, hp, e7, e13, e21, e9, e15, e23, e17⟩ := h
  have w1 : wrap64R (addI 1 v9) = ((i + 1 : Nat) : Int) := wr64 (by rw [e9]; push_cast; omega) (by omega)
  have w2 : wrap64R (addI 2 v15) = ((2 * (i + 1) : Nat) : Int) := wr64 (by rw [e15]; push_cast; omega) (by omega)
  have w3 : wrap64R (addI 3 v23) = ((3 * (i + 1) : Nat) : Int) := wr64 (by rw [e23]; push_cast; omega) (by omega)
  by_cases hz : i = 0
  · subst hz
    have g7 : v7 = 1 := e7
    have g13 : v13 = 1 := e13
    have g21 : v21 = 1 := e21
    subst g7; subst g13; subst g21
    cases b with
    | true =>
      obtain ⟨q1, q2⟩ := ss_in (bI true) hn ho hm hp (ss_okPl ..)
      obtain ⟨S', r1, r2, r3, r4⟩ := via_eq (k := 11) q1 (by rw [q2]; exact ss_step_11 ..) (by simp only [List.all_cons, List.all_nil, ss_okObj, ss_okMem, ss_okPl, Bool.and_true])
      exact ⟨S', r1.trans rfl, SsI.of (ss_fin hn r2 r4) ⟨rfl, rfl, rfl, rfl, rfl, rfl, rfl⟩, r2, r3⟩
    | false =>
      obtain ⟨q1, q2⟩ := ss_in (bI false) hn ho hm hp (ss_okPl ..)
      obtain ⟨S', r1, r2, r3, r4⟩ := via_eq (k := 11) q1 (by rw [q2]; exact ss_step_01 ..) (by simp only [List.all_cons, List.all_nil, ss_okObj, ss_okMem, ss_okPl, Bool.and_true])
      have e : v17 = 7 := e17
      rw [e] at r1
      exact ⟨S', r1.trans rfl, SsI.of (ss_fin hn r2 r4) ⟨rfl, rfl, rfl, rfl, rfl, rfl, rfl⟩, r2, r3⟩
  · have g : gI i = 0 := if_neg hz
    rw [g] at e7 e13 e21
    subst e7; subst e13; subst e21
    have gz : gI (i + 1) = 0 := if_neg (by omega)
    have gy : zI (i + 1) = ((3 * (i + 1) : Nat) : Int) := if_neg (by omega)
    cases b with
    | true =>
      obtain ⟨q1, q2⟩ := ss_in (bI true) hn ho hm hp (ss_okPl ..)
      obtain ⟨S', r1, r2, r3, r4⟩ := via_eq (k := 11) q1 (by rw [q2]; exact ss_step_10 ..) (by simp only [List.all_cons, List.all_nil, ss_okObj, ss_okMem, ss_okPl, Bool.and_true])
      rw [w1] at r1
      exact ⟨S', r1.trans rfl, SsI.of (ss_fin hn r2 r4) ⟨gz.symm, gz.symm, gz.symm, w1, w2, w3, w3.trans gy.symm⟩, r2, r3⟩
    | false =>
      obtain ⟨q1, q2⟩ := ss_in (bI false) hn ho hm hp (ss_okPl ..)
      obtain ⟨S', r1, r2, r3, r4⟩ := via_eq (k := 11) q1 (by rw [q2]; exact ss_step_00 ..) (by simp only [List.all_cons, List.all_nil, ss_okObj, ss_okMem, ss_okPl, Bool.and_true])
      rw [w2, e17] at r1
      exact ⟨S', r1.trans rfl, SsI.of (ss_fin hn r2 r4) ⟨gz.symm, gz.symm, gz.symm, w1, w2, w3, w3.trans gy.symm⟩, r2, r3⟩
end Go.Ax
