/-
  SoloStands: an instant of its unit, reckoned.
-/
import Derived.Test.YtgnohckncmhodaaGreatDoorSlZsUess
import Derived.Test.YtgnohckncmhodaaGreatDoorSlG10
import Derived.Deep.Strs
import Derived.Deep.Grids
set_option linter.unusedVariables false
set_option linter.unusedSimpArgs false
set_option maxHeartbeats 16000000
noncomputable section
namespace Go.Ax
open Go.RowKit Go.Proofs
set_option linter.unusedVariables false
set_option linter.unusedSimpArgs false
set_option maxRecDepth 100000
theorem ss_step_01 (v0 v1 v2 v3 v4 v5 v6 v8 v9 v10 v11 v12 v14 v15 v16 v17 v18 v19 v20 v22 v23 : Int) : seeR [2349, 2341, 2301] (callX E1 2000 27 [.ptr 2349 0, rowI 1 0 [(0)]] ⟨2366, T.set (T.set (T.set .leaf 2301 (some (.box ssMem))) 2341 (some (.box (ssP v0 v1 v2 v3 v4 v5 v6 (1) v8 v9 v10 v11 v12 (1) v14 v15 v16 v17 v18 v19 v20 (1) v22 v23)))) 2349 (some (.box ssObj))⟩) = some (rowI 0 0 [(2), v17], [some (.box ssObj), some (.box (ssP (0) (2) v17 (2) (1) (1) (1) (0) (0) (1) (2) (2) (2) (0) (0) (2) v17 (3) (3) (3) (3) (0) (0) (3))), some (.box ssMem)]) := by kernel_rfl
theorem ss_step_00 (v0 v1 v2 v3 v4 v5 v6 v8 v9 v10 v11 v12 v14 v15 v16 v17 v18 v19 v20 v22 v23 : Int) : seeR [2349, 2341, 2301] (callX E1 2000 27 [.ptr 2349 0, rowI 1 0 [(0)]] ⟨2366, T.set (T.set (T.set .leaf 2301 (some (.box ssMem))) 2341 (some (.box (ssP v0 v1 v2 v3 v4 v5 v6 (0) v8 v9 v10 v11 v12 (0) v14 v15 v16 v17 v18 v19 v20 (0) v22 v23)))) 2349 (some (.box ssObj))⟩) = some (rowI 0 0 [(wrap64R (addI (2) v15)), v17], [some (.box ssObj), some (.box (ssP (0) (wrap64R (addI (2) v15)) v17 (wrap64R (addI (2) v15)) (1) (wrap64R (addI (1) v9)) (wrap64R (addI (1) v9)) (0) v9 (wrap64R (addI (1) v9)) (2) (wrap64R (addI (2) v15)) (wrap64R (addI (2) v15)) (0) v15 (wrap64R (addI (2) v15)) v17 (wrap64R (addI (3) v23)) (3) (wrap64R (addI (3) v23)) (wrap64R (addI (3) v23)) (0) v23 (wrap64R (addI (3) v23)))), some (.box ssMem)]) := by kernel_rfl
theorem ss_step_11 (v0 v1 v2 v3 v4 v5 v6 v8 v9 v10 v11 v12 v14 v15 v16 v17 v18 v19 v20 v22 v23 : Int) : seeR [2349, 2341, 2301] (callX E1 2000 27 [.ptr 2349 0, rowI 1 0 [(1)]] ⟨2366, T.set (T.set (T.set .leaf 2301 (some (.box ssMem))) 2341 (some (.box (ssP v0 v1 v2 v3 v4 v5 v6 (1) v8 v9 v10 v11 v12 (1) v14 v15 v16 v17 v18 v19 v20 (1) v22 v23)))) 2349 (some (.box ssObj))⟩) = some (rowI 0 0 [(1), (0)], [some (.box ssObj), some (.box (ssP (1) (1) (0) (1) (1) (1) (1) (0) (0) (1) (2) (2) (2) (0) (0) (2) (0) (3) (3) (3) (3) (0) (0) (3))), some (.box ssMem)]) := by kernel_rfl
theorem ss_step_10 (v0 v1 v2 v3 v4 v5 v6 v8 v9 v10 v11 v12 v14 v15 v16 v17 v18 v19 v20 v22 v23 : Int) : seeR [2349, 2341, 2301] (callX E1 2000 27 [.ptr 2349 0, rowI 1 0 [(1)]] ⟨2366, T.set (T.set (T.set .leaf 2301 (some (.box ssMem))) 2341 (some (.box (ssP v0 v1 v2 v3 v4 v5 v6 (0) v8 v9 v10 v11 v12 (0) v14 v15 v16 v17 v18 v19 v20 (0) v22 v23)))) 2349 (some (.box ssObj))⟩) = some (rowI 0 0 [(wrap64R (addI (1) v9)), (0)], [some (.box ssObj), some (.box (ssP (1) (wrap64R (addI (1) v9)) (0) (wrap64R (addI (1) v9)) (1) (wrap64R (addI (1) v9)) (wrap64R (addI (1) v9)) (0) v9 (wrap64R (addI (1) v9)) (2) (wrap64R (addI (2) v15)) (wrap64R (addI (2) v15)) (0) v15 (wrap64R (addI (2) v15)) (0) (wrap64R (addI (3) v23)) (3) (wrap64R (addI (3) v23)) (wrap64R (addI (3) v23)) (0) v23 (wrap64R (addI (3) v23)))), some (.box ssMem)]) := by kernel_rfl
end Go.Ax
noncomputable section
namespace Go.Ax
open Go.RowKit Go.Proofs
set_option linter.unusedVariables false
set_option linter.unusedSimpArgs false
set_option maxRecDepth 100000
def gI (i : Nat) : Int := if i = 0 then 1 else 0
def zI (i : Nat) : Int := if i = 0 then 7 else ((3 * i : Nat) : Int)
theorem wr64 {a b : Int} {n : Nat} (h : a + b = (n : Int)) (hn : n ≤ 1000000) : wrap64R (addI a b) = (n : Int) := by
  rw [wrap64R_eq, addI_eq, h]; exact wrap_nat (by omega)
/-- How a unit stands after so many instants. -/
structure SsI (S : St) (i : Nat) : Prop where
  next : 2366 ≤ S.next
  obj : S.mem.get 2349 = some (.box ssObj)
  mem : S.mem.get 2301 = some (.box ssMem)
  pl : ∃ v0 v1 v2 v3 v4 v5 v6 v7 v8 v9 v10 v11 v12 v13 v14 v15 v16 v17 v18 v19 v20 v21 v22 v23 : Int, S.mem.get 2341 = some (.box (ssP v0 v1 v2 v3 v4 v5 v6 v7 v8 v9 v10 v11 v12 v13 v14 v15 v16 v17 v18 v19 v20 v21 v22 v23)) ∧ v7 = gI i ∧ v13 = gI i ∧ v21 = gI i ∧ v9 = (i : Int) ∧ v15 = ((2 * i : Nat) : Int) ∧ v23 = ((3 * i : Nat) : Int) ∧ v17 = zI i
theorem SsI.of {S : St} {i : Nat} {v0 v1 v2 v3 v4 v5 v6 v7 v8 v9 v10 v11 v12 v13 v14 v15 v16 v17 v18 v19 v20 v21 v22 v23 : Int} (hf : 2366 ≤ S.next ∧ S.mem.get 2349 = some (.box ssObj) ∧ S.mem.get 2341 = some (.box (ssP v0 v1 v2 v3 v4 v5 v6 v7 v8 v9 v10 v11 v12 v13 v14 v15 v16 v17 v18 v19 v20 v21 v22 v23)) ∧ S.mem.get 2301 = some (.box ssMem))
    (e : v7 = gI i ∧ v13 = gI i ∧ v21 = gI i ∧ v9 = (i : Int) ∧ v15 = ((2 * i : Nat) : Int) ∧ v23 = ((3 * i : Nat) : Int) ∧ v17 = zI i) : SsI S i :=
  ⟨hf.1, hf.2.1, hf.2.2.2, _, _, _, _, _, _, _, _, _, _, _, _, _, _, _, _, _, _, _, _, _, _, _, _, hf.2.2.1, e⟩
theorem ss_okObj : okC 2366 (some (.box ssObj)) = true := by kernel_rfl
theorem ss_okMem : okC 2366 (some (.box ssMem)) = true := by kernel_rfl
theorem ss_okPl (v0 v1 v2 v3 v4 v5 v6 v7 v8 v9 v10 v11 v12 v13 v14 v15 v16 v17 v18 v19 v20 v21 v22 v23 : Int) : okC 2366 (some (.box (ssP v0 v1 v2 v3 v4 v5 v6 v7 v8 v9 v10 v11 v12 v13 v14 v15 v16 v17 v18 v19 v20 v21 v22 v23))) = true := by kernel_rfl
theorem ss_okArgs (x : Int) : ltL 2366 [.ptr 2349 0, rowI 1 0 [x]] = true := by kernel_rfl
theorem ss_in {S : St} {cs : List AV} (x : Int) (hn : 2366 ≤ S.next) (h1 : S.mem.get 2349 = some (.box ssObj)) (h3 : S.mem.get 2301 = some (.box ssMem)) (h2 : S.mem.get 2341 = some (.box cs)) (hk : okC 2366 (some (.box cs)) = true) :
    smallIn 2366 [2349, 2341, 2301] [.ptr 2349 0, rowI 1 0 [x]] S = true ∧ subM S [2349, 2341, 2301] = T.set (T.set (T.set .leaf 2301 (some (.box ssMem))) 2341 (some (.box cs))) 2349 (some (.box ssObj)) := by
  refine ⟨?_, by simp only [subM, h1, h2, h3]⟩
  unfold smallIn
  simp only [List.all_cons, List.all_nil, h1, h2, h3, ss_okObj, ss_okMem, hk, ss_okArgs, Bool.and_true, Nat.ble_eq_true_of_le hn]
  rfl
theorem ss_fin {S S' : St} {a b c : Cell} (hn : 2366 ≤ S.next) (h2 : S'.next = S.next) (h4 : [2349, 2341, 2301].map S'.mem.get = [some a, some b, some c]) : 2366 ≤ S'.next ∧ S'.mem.get 2349 = some a ∧ S'.mem.get 2341 = some b ∧ S'.mem.get 2301 = some c := by
  simp only [List.map_cons, List.map_nil, List.cons.injEq, and_true] at h4
  exact ⟨by omega, h4.1, h4.2.1, h4.2.2⟩
def bI (b : Bool) : Int := if b then 1 else 0
def yI (b : Bool) (i : Nat) : Int := if b then ((i + 1 : Nat) : Int) else ((2 * (i + 1) : Nat) : Int)
def wI (b : Bool) (i : Nat) : Int := if b then 0 else zI i
theorem ss_round (S : St) (i : Nat) (h : SsI S i) (hi : i ≤ 1000) (b : Bool) :
    ∃ S', viaSmall E1 2000 27 2366 [2349, 2341, 2301] [.ptr 2349 0, rowI 1 0 [bI b]] S = .ret (rowI 0 0 [yI b i, wI b i]) S' ∧ SsI S' (i + 1) ∧ S'.next = S.next ∧ ∀ j, j ∉ [2349, 2341, 2301] → S'.mem.get j = S.mem.get j := by
  obtain ⟨hn, ho, hm, v0, v1, v2, v3, v4, v5, v6, v7, v8, v9, v10, v11, v12, v13, v14, v15, v16, v17, v18, v19, v20, v21, v22, v23, hp, e7, e13, e21, e9, e15, e23, e17⟩ := h
  have w1 : wrap64R (addI 1 v9) = ((i + 1 : Nat) : Int) := wr64 (by rw [e9]; push_cast; omega) (by omega)
  have w2 : wrap64R (addI 2 v15) = ((2 * (i + 1) : Nat) : Int) := wr64 (by rw [e15]; push_cast; omega) (by omega)
  have w3 : wrap64R (addI 3 v23) = ((3 * (i + 1) : Nat) : Int) := wr64 (by rw [e23]; push_cast; omega) (by omega)
  by_cases hz : i = 0
  · subst hz
    have g7 : v7 = 1 := e7
    have g13 : v13 = 1 := e13
    have g21 : v21 = 1 := e21
    subst g7; subst g13; subst g21
    cases b with
    | true =>
      obtain ⟨q1, q2⟩ := ss_in (bI true) hn ho hm hp (ss_okPl ..)
      obtain ⟨S', r1, r2, r3, r4⟩ := via_eq (k := 27) q1 (by rw [q2]; exact ss_step_11 ..) (by simp only [List.all_cons, List.all_nil, ss_okObj, ss_okMem, ss_okPl, Bool.and_true])
      exact ⟨S', r1.trans rfl, SsI.of (ss_fin hn r2 r4) ⟨rfl, rfl, rfl, rfl, rfl, rfl, rfl⟩, r2, r3⟩
    | false =>
      obtain ⟨q1, q2⟩ := ss_in (bI false) hn ho hm hp (ss_okPl ..)
      obtain ⟨S', r1, r2, r3, r4⟩ := via_eq (k := 27) q1 (by rw [q2]; exact ss_step_01 ..) (by simp only [List.all_cons, List.all_nil, ss_okObj, ss_okMem, ss_okPl, Bool.and_true])
      have e : v17 = 7 := e17
      rw [e] at r1
      exact ⟨S', r1.trans rfl, SsI.of (ss_fin hn r2 r4) ⟨rfl, rfl, rfl, rfl, rfl, rfl, rfl⟩, r2, r3⟩
  · have g : gI i = 0 := if_neg hz
    rw [g] at e7 e13 e21
    subst e7; subst e13; subst e21
    have gz : gI (i + 1) = 0 := if_neg (by omega)
    have gy : zI (i + 1) = ((3 * (i + 1) : Nat) : Int) := if_neg (by omega)
    cases b with
    | true =>
      obtain ⟨q1, q2⟩ := ss_in (bI true) hn ho hm hp (ss_okPl ..)
      obtain ⟨S', r1, r2, r3, r4⟩ := via_eq (k := 27) q1 (by rw [q2]; exact ss_step_10 ..) (by simp only [List.all_cons, List.all_nil, ss_okObj, ss_okMem, ss_okPl, Bool.and_true])
      rw [w1] at r1
      exact ⟨S', r1.trans rfl, SsI.of (ss_fin hn r2 r4) ⟨gz.symm, gz.symm, gz.symm, w1, w2, w3, w3.trans gy.symm⟩, r2, r3⟩
    | false =>
      obtain ⟨q1, q2⟩ := ss_in (bI false) hn ho hm hp (ss_okPl ..)
      obtain ⟨S', r1, r2, r3, r4⟩ := via_eq (k := 27) q1 (by rw [q2]; exact ss_step_00 ..) (by simp only [List.all_cons, List.all_nil, ss_okObj, ss_okMem, ss_okPl, Bool.and_true])
      rw [w2, e17] at r1
      exact ⟨S', r1.trans rfl, SsI.of (ss_fin hn r2 r4) ⟨gz.symm, gz.symm, gz.symm, w1, w2, w3, w3.trans gy.symm⟩, r2, r3⟩
end Go.Ax
noncomputable section
namespace Go.Ax
open Go.RowKit
set_option linter.unusedVariables false
set_option linter.unusedSimpArgs false
section
variable {P : Program} {base : Nat} {w0 : World}
def oBuildBox (P : Program) (S : St) (t : TypeId) (len : Nat) (parts : List (Nat × AV)) : Option (AV × St) :=
  match elemT P t with
  | some (none, e) => match sizeT P e, zeroA P e with
    | some (k + 1), some _ => if (parts.map (·.1) == List.range len) && (parts.all fun p => p.2.noTup && p.2.cells.length == k + 1) && decide (len * (k + 1) ≤ 16777216) then some (.bs S.next 0 len (k + 1), S.newBox (flat (parts.map (·.2)))) else none
    | _, _ => none
  | _ => none
theorem oBuildBox_sound {γ : Gh} {S : St} {w : World} (h : SR base w0 γ S w) {t : TypeId} {len : Nat} {parts : List (Nat × AV)} {vs : Array (Nat × Value)} (hi : vs.toList.map (·.1) = parts.map (·.1)) (hv : VRL γ w (parts.map (·.2)) (vs.toList.map (·.2))) {r : AV} {S' : St} (ho : oBuildBox P S t len parts = some (r, S')) :
    OkV P base w0 γ S w (Instr.buildSlice t len vs) r S' := by
  unfold oBuildBox at ho
  split at ho
  · rename_i e he
    have hu := elemT_slice he
    split at ho
    · rename_i k z hk hz
      split at ho
      · rename_i hc
        simp only [Bool.and_eq_true, beq_iff_eq, decide_eq_true_eq] at hc
        obtain ⟨⟨hr, hall⟩, hsz⟩ := hc
        injection ho with ho; injection ho with ho1 ho2; subst ho1; subst ho2
        obtain ⟨zv, hzr, hzv⟩ := zeroA_sound (γ := γ) (w := w) hz
        have hpl : parts.length = len := by have := congrArg List.length hr; simpa using this
        have hcell : ∀ p ∈ parts, p.2.noTup = true ∧ p.2.cells.length = k + 1 := fun p hp => by simpa using List.all_eq_true.1 hall p hp
        have hes : ∀ x ∈ parts.map (·.2), x.cells.length = k + 1 := fun x hx => by
          obtain ⟨p, hp, rfl⟩ := List.mem_map.1 hx; exact (hcell p hp).2
        have hnt : (parts.map (·.2)).all AV.noTup = true := List.all_eq_true.2 fun x hx => by
          obtain ⟨p, hp, rfl⟩ := List.mem_map.1 hx; exact (hcell p hp).1
        have hvl : (vs.toList.map (·.2)).length = len := by rw [hv.1]; simpa using hpl
        have hvs : ∀ u ∈ vs.toList.map (·.2), u.cells.size = k + 1 := fun u hu => by
          obtain ⟨j, hj, rfl⟩ := List.getElem_of_mem hu
          have hj2 : j < (parts.map (·.2)).length := by rw [← hv.1]; exact hj
          have h1 := (hv.2 j hj2 hj).cells.1
          rw [hes _ (List.getElem_mem hj2)] at h1
          simpa using h1
        have hzip := zip_range vs.toList 0 (by
          rw [hi, hr, List.range_eq_range']
          congr 1
          simpa using hvl.symm)
        obtain ⟨Z, hZ⟩ : ∃ Z : Array Value, Z = (Array.range (len * (k + 1))).map (fun i => (if len * (k + 1) = 0 then #[] else zv.cells : Array Value)[i % (if len * (k + 1) = 0 then #[] else zv.cells : Array Value).size]!) := ⟨_, rfl⟩
        have hZs : Z.size = len * (k + 1) := by rw [hZ]; simp
        obtain ⟨ys, e1, e2⟩ := fill_seq (k + 1) (vs.toList.map (·.2)) 0 Z hvs (by rw [hvl, hZs]; simp)
        rw [← hzip] at e1
        have hfr := cells_flat hv
        have hfl : (flat (parts.map (·.2))).length = len * (k + 1) := by rw [flat_length hes]; simp [hpl]
        have hys : ys.toList = (vs.toList.map (·.2)).flatMap fun v => v.cells.toList := by
          rw [e2]
          unfold splice
          have : ((vs.toList.map (·.2)).flatMap fun v => v.cells.toList).length = len * (k + 1) := by rw [hfr.1, hfl]
          rw [Nat.zero_mul, List.take_zero, List.nil_append, Nat.zero_add, this, List.drop_eq_nil_of_le (by rw [Array.length_toList, hZs]; exact Nat.le_refl _), List.append_nil]
        have hyl : ys.size = len * (k + 1) := by rw [← Array.length_toList, hys, hfr.1, hfl]
        have hys2 : VRL γ w (flat (parts.map (·.2))) ys.toList := by rw [hys]; exact hfr
        obtain ⟨k1, k2⟩ := h.newBox e hys2 (ones_flat hv hnt)
        rw [Array.toArray_toList] at k1 k2
        have hx : Ext γ S w _ (S.newBox (flat (parts.map (·.2)))) (w.alloc (.cells ys e)) := Ext.newBox h (.cells ys e) _
        refine ⟨.slice (some ⟨w.heap.size, 0, none⟩) len len, w.alloc (.cells ys e), γ.withLoc S.next w.heap.size 0, ?_, k1, hx, ?_⟩
        · have h24 : ¬ (16777216 < len * (k + 1)) := by omega
          by_cases h0 : len * (k + 1) = 0
          · rw [if_pos h0] at hZ
            have hl0 : len = 0 := by
              rcases Nat.mul_eq_zero.1 h0 with h | h
              · exact h
              · omega
            subst hl0
            simp at hZ
            subst hZ
            simp [Instr.buildSlice, run_underlying hu, sizeT_run hk, e1, newRow]
          · rw [if_neg h0] at hZ
            have hl0 : ¬ len = 0 := fun e => h0 (by rw [e, Nat.zero_mul])
            have e1' := e1
            rw [hZ] at e1'
            simp [Instr.buildSlice, run_underlying hu, sizeT_run hk, h24, hl0, hzr, e1', newRow]
            exact fun hq => absurd hq h0
        · exact .bs S.next 0 len (k + 1) w.heap.size 0 len (by show (if S.next = S.next then _ else _) = _; rw [if_pos rfl]) (Nat.le_refl _) (Nat.succ_pos _) ⟨ys, e, (0, 0), heap_alloc_new w _, by omega⟩
      · cases ho
    · cases ho
  · cases ho
end
def exec1B (E : Env) (f : T AV) (S : St) (o : Oper) : OR := match o.op with
  | .buildSlice t len parts => match partsA E.G f parts.toList with
    | some ps => ofOptS (oBuildBox E.P S t len ps)
    | none => .fail
  | _ => exec1 E f S o
section
variable {E : Env} {base : Nat} {w0 : World} {γ : Gh} {S : St} {w : World} {f : T AV} {act : Act} {o : Oper}
theorem exec1B_sound (hE : E.Ok) (hS : SR base w0 γ S w) (hf : FR γ w f act.tmps) (hg : GR γ w E.G) : OkO E base w0 γ S w act o (exec1B E f S o) := by
  unfold exec1B
  split
  · rename_i t len parts ho
    split
    · rename_i ps hps
      obtain ⟨h1, h2⟩ := partsA_sound hf hg hps
      exact OkO.ofOptS (s := Instr.buildSlice t len (parts.map fun (i, x) => (i, act.eval x))) (by simp only [execOp, ho]) fun a S' h => oBuildBox_sound hS (by simpa using h1) (by simpa using h2) h
    · trivial
  · exact exec1_sound hE hS hf hg
end
def stepOB (E : Env) (callK : CallK) (n : Nat) (ops : Array Oper) (o : Oper) (f : Fr) (S : St) : O :=
  match wantedA ops o f.tmps with
  | none => .fail
  | some false => putA n f o.dst (.tup []) S
  | some true => match exec1B E f.tmps S o with
    | .val a S' => putA n f o.dst a S'
    | .skip S' => putA n f o.dst (.tup []) S'
    | .enter k args S' => match callK k args S' with
      | .ret a S'' => putA n f o.dst a S''
      | .pan a S'' => .out (.pan a) f S''
      | .fail => .fail
    | .dfr fn caps args S' => putA n { f with dfr := ⟨fn, caps, args⟩ :: f.dfr } o.dst (.tup []) S'
    | .pan a S' => .out (.pan a) f S'
    | .fail => .fail
section
variable {E : Env} {base : Nat} {w0 : World} {Q : Exit → Act → World → Prop}
theorem stepOB_sound (hE : E.Ok) {callK : CallK} (hC : CallOk E base w0 callK) {γ : Gh} {S : St} {w : World} {n : Nat} {ops : Array Oper} {o : Oper} {f : Fr} {act : Act} (hS : SR base w0 γ S w) (ha : AR γ w n f act) (hg : GR γ w E.G)
    {K : Act → World → Prop} (hH : Holds base w0 n γ S w (fun x a w => match x with | .normal => K a w | x => Q x a w) (stepOB E callK n ops o f S)) :
    if Region.wanted o (yielded ops act.tmps) then o.wp E.P act w K Q else K (act.put o.dst undef) w := by
  unfold stepOB at hH
  split at hH
  · exact hH.elim
  · rename_i hw
    rw [wantedA_sound ha hw, if_neg (by simp)]
    exact put_holds (v := undef) hH hS (.refl _ _ _) ha (by have := VR.tup (γ := γ) (w := w) [] [] rfl (fun k h => by cases h); exact this)
  · rename_i hw
    rw [wantedA_sound ha hw, if_pos rfl]
    have hex := exec1B_sound (o := o) hE hS ha.tmps hg
    have hund : ∀ {γ' : Gh} {w' : World}, VR γ' w' (.tup []) undef := fun {γ'} {w'} => by have := VR.tup (γ := γ') (w := w') [] [] rfl (fun k h => by cases h); exact this
    unfold Oper.wp
    split at hH
    · rename_i a S' he
      rw [he] at hex
      obtain ⟨v, w', γ', hr, h1, h2, h3⟩ := hex
      rw [hr]
      exact put_holds hH h1 h2 (ha.mono h2.ev) h3
    · rename_i S' he
      rw [he] at hex
      obtain ⟨w', γ', hr, h1, h2⟩ := hex
      rw [hr]
      exact put_holds hH h1 h2 (ha.mono h2.ev) hund
    · rename_i k args S' he
      rw [he] at hex
      obtain ⟨rfl, hF, vs, hr, h3⟩ := hex
      rw [hr]
      have hne : callK k args S' ≠ .fail := fun e => by rw [e] at hH; exact hH.elim
      refine (hC k args S' hne γ w vs hS hg h3 hF).mono fun e w' hret => ?_
      unfold RetOk at hret
      split at hret
      · rename_i a S'' hk
        rw [hk] at hH
        obtain ⟨γ', v, k1, k2, k3, rfl⟩ := hret
        exact put_holds hH k1 k2 (ha.mono k2.ev) k3
      · rename_i a S'' hk
        rw [hk] at hH
        obtain ⟨γ', v, k1, k2, k3, rfl⟩ := hret
        exact hH γ' act w' k1 k2 (ha.mono k2.ev) v k3
      · exact hret.elim
    · rename_i fn caps args S' he
      rw [he] at hex
      obtain ⟨rfl, cv, av, hr, h1, h2⟩ := hex
      rw [hr]
      exact put_holds (act := { act with defers := { target := .fn fn cv.toArray, args := av.toArray } :: act.defers }) hH hS (.refl _ _ _) ⟨ha.tmps, ha.size, ⟨cv, av, rfl, h1, h2⟩, ha.dfr⟩ hund
    · rename_i a S' he
      rw [he] at hex
      obtain ⟨rfl, v, hr, hv⟩ := hex
      rw [hr]
      exact hH γ act w hS (.refl _ _ _) ha v hv
    · exact hH.elim
/-- Operations in a row. -/
def runLB (E : Env) (callK : CallK) (n : Nat) (ops : Array Oper) : List Oper → Fr → St → O
  | [], f, S => .out .normal f S
  | o :: rest, f, S => match stepOB E callK n ops o f S with
    | .out .normal f' S' => runLB E callK n ops rest f' S'
    | r => r
theorem runLB_sound (hE : E.Ok) {callK : CallK} (hC : CallOk E base w0 callK) {n : Nat} {ops : Array Oper} : ∀ (l : List Oper) (γ : Gh) (S : St) (w : World) (f : Fr) (act : Act), SR base w0 γ S w → AR γ w n f act → GR γ w E.G →
    Holds base w0 n γ S w Q (runLB E callK n ops l f S) → wpList E.P ops Q l act w
  | [], γ, S, w, f, act, hS, ha, hg, hH => hH γ act w hS (.refl _ _ _) ha
  | o :: rest, γ, S, w, f, act, hS, ha, hg, hH => by
    refine wpList_step fun K hK => ?_
    refine stepOB_sound hE hC hS ha hg ?_
    unfold runLB at hH
    split at hH
    · rename_i f' S' hs
      rw [hs]
      intro γ' act' w' h1 h2 h3
      exact hK _ _ (runLB_sound hE hC rest γ' S' w' f' act' h1 h3 (hg.mono h2.ev) (hH.later h2))
    · rename_i r hr
      cases hst : stepOB E callK n ops o f S with
      | fail => rw [hst] at hH; exact hH.elim
      | out e f' S' =>
        rw [hst] at hH
        intro γ' act' w' h1 h2 h3
        have := hH γ' act' w' h1 h2 h3
        cases e with
        | normal => exact absurd hst (hr f' S')
        | exit id => exact this
        | ret => exact this
        | pan a => exact this
end
theorem noCalls (E : Env) (base : Nat) (w0 : World) : CallOk E base w0 (fun _ _ _ => .fail) := fun k args S h => absurd rfl h
/-- A region of such operations, without calls. -/
theorem region_B {E : Env} (hE : E.Ok) (hG : E.G = fun _ => none) {n id : Nat} {ops : Array Oper} {f f' : T AV} {S S' : St} (h : runLB E (fun _ _ _ => .fail) n ops ops.toList ⟨f, []⟩ S = .out .normal ⟨f', []⟩ S') {Q : Exit → Act → World → Prop} {K : Act → World → Prop} {act : Act} {γ : Gh} {base : Nat} {w0 w : World}
    (hS : SR base w0 γ S w) (hf : FR γ w f act.tmps) (hn : act.tmps.size = n) (hd : act.defers = [])
    (hQ : ∀ act' w' γ', act'.tmps.size = n → act'.defers = [] → SR base w0 γ' S' w' → FR γ' w' f' act'.tmps → K act' w') : (Code.region id ops false).wp E.P (Exit.then K Q) act w := by
  refine wp_region_list (runLB_sound (Q := Exit.then K Q) hE (noCalls E base w0) _ γ S w ⟨f, []⟩ act hS ⟨hf, hn, by rw [hd]; trivial⟩ (by rw [hG]; exact GR.none) ?_)
  rw [h]
  intro γ' act' w' h1 h2 h3
  have hd' : act'.defers = [] := by
    have hdd := h3.dfr
    cases hx : act'.defers with
    | nil => rfl
    | cons a r => rw [hx] at hdd; exact hdd.elim
  exact hQ act' w' γ' h3.size hd' h1 h3.tmps
/-- Code that is known to end so: whatever may come of it. -/
theorem codeWg {E : Env} (hE : E.Ok) (hI : IntrOk E) (hmix : E.P.follows .mixedOrders = true) (hG : E.G = fun _ => none) {n : Nat} {c : Code} {f : T AV} {S : St} {R : O → Prop}
    (h : W E n c ⟨f, []⟩ S R) {Q : Exit → Act → World → Prop} {act : Act} {γ : Gh} {base : Nat} {w0 w : World} (hS : SR base w0 γ S w) (hf : FR γ w f act.tmps) (hn : act.tmps.size = n) (hd : act.defers = [])
    (hQ : ∀ r, R r → Holds base w0 n γ S w Q r) : c.wp E.P Q act w := by
  obtain ⟨r, ⟨m0, hm⟩, hr⟩ := W_sound h
  refine (run_sound hE hI (drawnNew_ok hE hmix) m0).code base w0 Q n c γ S w ⟨f, []⟩ act hS ⟨hf, hn, by rw [hd]; trivial⟩ (by rw [hG]; exact GR.none) ?_
  rw [hm m0 (Nat.le_refl _)]
  exact hQ r hr
theorem dfr_nil {γ : Gh} {w : World} {n : Nat} {f : T AV} {act : Act} (h : AR γ w n ⟨f, []⟩ act) : act.defers = [] := by
  have hdd := h.dfr
  cases hx : act.defers with
  | nil => rfl
  | cons a r => rw [hx] at hdd; exact hdd.elim
end Go.Ax
noncomputable section
namespace Go.Ax
open Go.RowKit Go.Proofs Go.WideShapes
set_option linter.unusedVariables false
set_option linter.unusedSimpArgs false
set_option maxRecDepth 100000
theorem solo_awake (w : World) : Calls Tryz.prog 24 #[] w fun e w' => e = .returned (.bool true) ∧ Below w.heap.size w w' :=
  callsX_true (E := E1) e1_ok e1_intr e1_mix rfl (m := 2000) (k := 24) (args := []) (by kernel_rfl) (by kernel_rfl) (vs := []) ⟨rfl, fun k hk => by cases hk⟩
theorem off_le {p : Program} {fits : TypeId → Bool} : ∀ {d : Nat} {e : TypeId} {count off n : Nat}, Go.rowAt p fits d e count off n = true → off ≤ count * p.cellsOf e
  | 0, e, count, off, n, h => by simp [Go.rowAt] at h
  | d + 1, e, count, off, n, h => by
    unfold Go.rowAt at h
    simp only at h
    split at h
    · cases h
    · rename_i hs
      have hp : 0 < p.cellsOf e := Nat.pos_of_ne_zero hs
      have h1 : off / p.cellsOf e ≤ count ∧ (off % p.cellsOf e = 0 ∨ off / p.cellsOf e < count) := by
        simp only [Bool.or_eq_true, Bool.and_eq_true, beq_iff_eq, decide_eq_true_eq] at h
        rcases h with ⟨⟨h1, h2⟩, _⟩ | ⟨h1, _⟩
        · exact ⟨by omega, .inl h1⟩
        · exact ⟨by omega, .inr h1⟩
      have hdm := Nat.div_add_mod off (p.cellsOf e)
      have hml := Nat.mod_lt off hp
      rcases h1 with ⟨h1, h2 | h2⟩
      · rw [h2, Nat.add_zero] at hdm
        rw [← hdm, Nat.mul_comm]
        exact Nat.mul_le_mul_right _ h1
      · have h3 : (off / p.cellsOf e + 1) * p.cellsOf e ≤ count * p.cellsOf e := Nat.mul_le_mul_right _ h2
        rw [Nat.add_mul, Nat.one_mul, Nat.mul_comm (off / p.cellsOf e)] at h3
        omega
theorem lies_le {p : Program} : ∀ {d : Nat} {e : TypeId} {count off : Nat} {u : TypeId} {n : Nat}, liesAt p d e count off u n = true → off ≤ count * p.cellsOf e
  | 0, e, count, off, u, n, h => by simp [liesAt] at h
  | d + 1, e, count, off, u, n, h => by
    unfold liesAt at h
    rw [Bool.or_eq_true] at h
    rcases h with h | h
    · exact off_le h
    · split at h
      · exact lies_le h
      · cases h
theorem has_off {P : Program} {W : World} {base : Nat} {a : Addr} {e : TypeId} {n : Nat} (h : W.has P .any base a e n) : ∃ b o arr T fr, a = ⟨b, o, none⟩ ∧ W.heap[b]? = some (Obj.cells arr T fr) ∧ o ≤ arr.size := by
  obtain ⟨_, hs, row, cells, h1, h2⟩ := h
  obtain ⟨b, o, spot⟩ := a
  simp only at hs
  subst hs
  simp only [World.shape?] at h1
  split at h1
  · rename_i c el fr he
    simp only [Option.some.injEq, Prod.mk.injEq] at h1
    obtain ⟨rfl, rfl⟩ := h1
    refine ⟨b, o, c, _, fr, rfl, he, ?_⟩
    have := lies_le h2
    exact Nat.le_trans this (Nat.div_mul_le_self _ _)
  · cases h1
theorem cell_bound {W : World} {b o : Nat} {arr : Array Value} {T : TypeId} {fr : Nat × Nat} {v : Value} (ha : W.heap[b]? = some (Obj.cells arr T fr)) (h : W.cell? ⟨b, o, none⟩ = some v) : o < arr.size := by
  unfold World.cell? at h
  rw [ha] at h
  simp only [Option.isSome_none, Bool.false_eq_true, if_false] at h
  exact (Array.getElem?_eq_some_iff.1 h).1
theorem row_in {W w1 : World} (hb : Below W.heap.size W w1) {b o len cap : Nat} {arr : Array Value} {T : TypeId} {fr : Nat × Nat} (ha : W.heap[b]? = some (Obj.cells arr T fr)) (hz : o + cap ≤ arr.size) (hl : len ≤ cap) (V : Nat → Value) (hsc : ∀ i, scalar (V i) = true)
    (hcell : ∀ i, i < len → W.cell? ⟨b, o + i, none⟩ = some (V i)) : VR (GhW w1) w1 (.sl 0 0 1 ((List.range len).map fun i => .v (V i))) (.slice (some ⟨b, o, none⟩) len cap) := by
  have hlt : b < W.heap.size := (Array.getElem?_eq_some_iff.1 ha).1
  have hk : w1.heap[b]? = W.heap[b]? := hb.block b hlt
  have hlt1 : b < w1.heap.size := Nat.lt_of_lt_of_le hlt hb.size
  have hc1 : ∀ i, i < len → w1.cell? ⟨b, o + i, none⟩ = some (V i) := fun i hi => by
    rw [← hcell i hi]
    unfold World.cell?
    simp only [hk]
  have hfl : ∀ l : List Nat, flat (l.map fun i => AV.v (V i)) = l.map fun i => AV.v (V i) := fun l => by
    induction l with
    | nil => rfl
    | cons x r ih =>
      show AV.cells (AV.v (V x)) ++ flat (r.map fun i => AV.v (V i)) = _
      rw [ih]; rfl
  have hmain : VR (GhW w1) w1 (.sl 0 0 1 ((List.range len).map fun i => .v (V i))) (.slice (some ⟨b, o, none⟩) ((List.range len).map fun i => AV.v (V i)).length cap) := by
    refine .sl 0 0 1 _ b o cap V (by omega) (fun e he => ?_) (fun x hx => ?_) (fun k hk => ?_) (fun k hk => ?_) (fun h => absurd h (by omega)) (fun h => absurd h (by omega)) (by simpa using hl) ⟨arr, T, fr, by rw [hk]; exact ha, by simpa using hz⟩
    · obtain ⟨s, _, rfl⟩ := List.mem_map.1 he; rfl
    · rw [hfl] at hx; obtain ⟨s, _, rfl⟩ := List.mem_map.1 hx; rfl
    · rw [hfl] at hk
      have hk2 : k < len := by simpa using hk
      exact ⟨⟨hlt1, _, hc1 k hk2⟩, hc1 k hk2⟩
    · have hk2 : k < len := by rw [hfl] at hk; simpa using hk
      have e1 : (flat ((List.range len).map fun i => AV.v (V i)))[k] = AV.v (V k) := by
        simp only [hfl, List.getElem_map, List.getElem_range]
      rw [e1]
      exact .v _ (hsc k)
  simpa using hmain
theorem u4 : Tryz.prog.underlying 4 = some .bool := by kernel_rfl
theorem c4 : Tryz.prog.cellsOf 4 = 1 := by kernel_rfl
def BoolIn (W : World) (v : Value) : Prop := ∃ (ss : List Bool) (na : AV), isRowB na ss ∧ ∀ w1, Below W.heap.size W w1 → VR (GhW w1) w1 na v
theorem bools_in {H : Type} {enc : TypeId × Value → H} {W : World} {base fuel : Nat} {a0 : Option Addr} {len cap : Nat} {x : DataW H × List MemPlace} (hok : Value.okWide Tryz.prog W .any base 38 (.slice a0 len cap))
    (hf : DataW.trod enc Tryz.prog W 0 (fun _ => true) true fuel 38 (Value.slice a0 len cap).cells.toList = some x) : BoolIn W (.slice a0 len cap) := by
  rcases Go.Deep.open_bools u36 u4 c4 hf with ⟨hcs, hx⟩ | ⟨a, len', cap', V, hcs, _, hl, hm, hx, hcell⟩
  · simp [Value.cells] at hcs
    obtain ⟨rfl, rfl, rfl⟩ := hcs
    exact ⟨[], .nils, .inl ⟨rfl, rfl⟩, fun _ _ => .nils⟩
  · simp [Value.cells] at hcs
    obtain ⟨rfl, rfl, rfl⟩ := hcs
    simp only [Value.okWide, u36, Cell.okWide, Cell.ok] at hok
    obtain ⟨b, o, arr, T, fr, rfl, ha, ho⟩ := has_off hok.2.2
    have hc : ∀ i, i < cap → W.cell? ⟨b, o + i, none⟩ = some (.bool (V i)) := fun i hi => by rw [← Go.WideShapes.add_plain]; exact hcell i hi
    have hsz : o + cap ≤ arr.size := by
      by_cases h0 : cap = 0
      · omega
      · have := cell_bound ha (hc (cap - 1) (by omega)); omega
    refine ⟨(List.range len).map V, .sl 0 0 1 ((List.range len).map fun i => .v (.bool (V i))), .inr ⟨0, 0, by simp [boolB, Function.comp_def]⟩, fun w1 hb => row_in hb ha hsz hl (fun i => .bool (V i)) (fun _ => rfl) (fun i hi => hc i (by omega))⟩
end Go.Ax
noncomputable section
namespace Go.Ax
open Go.RowKit Go.Proofs
set_option linter.unusedVariables false
set_option linter.unusedSimpArgs false
set_option maxRecDepth 100000
def ssC5 : Code := match ssRest with
  | .seq a _ => a
  | _ => .skip
def ssR7 : Code := match ssRest with
  | .seq _ (.seq (.seq a _) _) => a
  | _ => .skip
def ssC : Code := match ssRest with
  | .seq _ (.seq (.seq _ (.block _ (.loop c))) _) => c
  | _ => .skip
def ssEnd : Code := match ssRest with
  | .seq _ (.seq _ e) => e
  | _ => .skip
theorem ssRest_eq : ssRest = .seq ssC5 (.seq (.seq ssR7 (.block 0 (.loop ssC))) ssEnd) := by kernel_rfl
def ssA : Code := match ssC with
  | .seq a _ => a
  | _ => .skip
def ss10 : Code := match ssC with
  | .seq _ (.seq (.block _ (.seq a _)) _) => a
  | _ => .skip
def ss11 : Array Oper := match ssC with
  | .seq _ (.seq (.block _ (.seq _ (.seq (.region _ a _) _))) _) => a
  | _ => #[]
def ssY : Code := match ssC with
  | .seq _ (.seq (.block _ (.seq _ (.seq _ a))) _) => a
  | _ => .skip
def ss9 : Code := match ssC with
  | .seq _ (.seq _ a) => a
  | _ => .skip
theorem ssC_eq : ssC = .seq ssA (.seq (.block 1 (.seq ss10 (.seq (.region 11 ss11 false) ssY))) ss9) := by kernel_rfl
theorem fb_mul (k : IntKind) (x y : Int) : fastBin .mul (.v (.int k x)) (.v (.int k y)) = some (.v (.int k (k.wrap (x * y)))) := by simp [fastBin]
theorem fb_sub (k : IntKind) (x y : Int) : fastBin .sub (.v (.int k x)) (.v (.int k y)) = some (.v (.int k (k.wrap (x - y)))) := by simp [fastBin]
structure Fs (f : T AV) (na : AV) (i : Nat) : Prop where
  g0 : f.get 0 = some na
  g5 : f.get 5 = some (.ptr 2349 0)
  g7 : f.get 7 = some (.v (.int .i64 (i : Int)))
theorem wA (na : AV) (bs : List Bool) (hna : isRowB na bs) (i : Nat) (f : T AV) (S : St) (h : Fs f na i) : W (E2 2366 [2349, 2341, 2301]) 59 ssA ⟨f, []⟩ S (fun r => (i < bs.length ∧ i < 40 ∧ ∃ f', r = .out .normal ⟨f', []⟩ S ∧ Fs f' na i) ∨ (∃ f', r = .out (.exit 0) ⟨f', []⟩ S)) := by
  obtain ⟨h0, h5, h7⟩ := h
  have hlen := fun S => len36 S hna
  by_cases hlt : (i : Int) < (bs.length : Int)
  · by_cases h40 : (i : Int) < 40
    · simp only [thenW_normal, thenW_exit, thenW_ret, thenW_pan, W_skip, W_region, W_drawn, W_seq, W_cond, W_block, W_loop, W_exit, W_ret, seqQ_normal2, seqQ_exit2, seqQ_ret2, seqQ_pan2, blockW_normal2, blockW_ret2, blockW_pan2, blockW_exit2, WL_nil2, WL_cons, execL_no, execL_val2, execL_skip2, execL_enter2, execL_pan2, putL_none2, putL_some2, retL_ret2, retL_pan2, condW_t2, condW_f2, wantedA, exec1, evalO, initT, T.get_set, T.get_leaf, callA, mapO, ofOpt, ofOptS, ofConst, e2_P, e2_G, partsA, neNil3, finW_ret, finW_pan, giveW, resultsA, tupA, ground_not, notO_bool, fb_lss, fb_leq, fb_gtr, fb_geq, fb_add, fb_eqlI, fb_neqI, Nat.reduceLT, Nat.reduceAdd, Nat.reduceEqDiff, if_true, if_false, reduceIte, true_and, and_true, Option.getD_some, List.getElem?_toArray, List.getElem?_cons_succ, List.getElem?_cons_zero, Option.bind_some, List.nil_append, List.append_nil, beq_self_eq_true, Bool.false_eq_true, Bool.true_eq_false, decide_true, decide_false, Bool.not_true, Bool.not_false, Bool.false_beq, Bool.true_beq, Option.toList, List.head?_cons, List.head?_nil, WR_nil2, WR_op, WR_re2, execR_no, execR_val2, execR_skip2, execR_enter2, execR_pan2, putRW_none2, putRW_some2, retRW_ret2, retRW_pan2, fixQ_normal2, fixQ_pan2, rsOf, ssA, ssC, ssRest, Tryz.f9, hlen, h0, h7, hlt, h40]
      exact .inl ⟨by omega, by omega, _, rfl, by simp only [T.get_set, Nat.reduceEqDiff, if_false, h0], by simp only [T.get_set, Nat.reduceEqDiff, if_false, h5], by simp only [T.get_set, Nat.reduceEqDiff, if_false, h7]⟩
    · simp only [thenW_normal, thenW_exit, thenW_ret, thenW_pan, W_skip, W_region, W_drawn, W_seq, W_cond, W_block, W_loop, W_exit, W_ret, seqQ_normal2, seqQ_exit2, seqQ_ret2, seqQ_pan2, blockW_normal2, blockW_ret2, blockW_pan2, blockW_exit2, WL_nil2, WL_cons, execL_no, execL_val2, execL_skip2, execL_enter2, execL_pan2, putL_none2, putL_some2, retL_ret2, retL_pan2, condW_t2, condW_f2, wantedA, exec1, evalO, initT, T.get_set, T.get_leaf, callA, mapO, ofOpt, ofOptS, ofConst, e2_P, e2_G, partsA, neNil3, finW_ret, finW_pan, giveW, resultsA, tupA, ground_not, notO_bool, fb_lss, fb_leq, fb_gtr, fb_geq, fb_add, fb_eqlI, fb_neqI, Nat.reduceLT, Nat.reduceAdd, Nat.reduceEqDiff, if_true, if_false, reduceIte, true_and, and_true, Option.getD_some, List.getElem?_toArray, List.getElem?_cons_succ, List.getElem?_cons_zero, Option.bind_some, List.nil_append, List.append_nil, beq_self_eq_true, Bool.false_eq_true, Bool.true_eq_false, decide_true, decide_false, Bool.not_true, Bool.not_false, Bool.false_beq, Bool.true_beq, Option.toList, List.head?_cons, List.head?_nil, WR_nil2, WR_op, WR_re2, execR_no, execR_val2, execR_skip2, execR_enter2, execR_pan2, putRW_none2, putRW_some2, retRW_ret2, retRW_pan2, fixQ_normal2, fixQ_pan2, rsOf, ssA, ssC, ssRest, Tryz.f9, hlen, h0, h7, hlt, h40]
      exact .inr ⟨_, rfl⟩
  · simp only [thenW_normal, thenW_exit, thenW_ret, thenW_pan, W_skip, W_region, W_drawn, W_seq, W_cond, W_block, W_loop, W_exit, W_ret, seqQ_normal2, seqQ_exit2, seqQ_ret2, seqQ_pan2, blockW_normal2, blockW_ret2, blockW_pan2, blockW_exit2, WL_nil2, WL_cons, execL_no, execL_val2, execL_skip2, execL_enter2, execL_pan2, putL_none2, putL_some2, retL_ret2, retL_pan2, condW_t2, condW_f2, wantedA, exec1, evalO, initT, T.get_set, T.get_leaf, callA, mapO, ofOpt, ofOptS, ofConst, e2_P, e2_G, partsA, neNil3, finW_ret, finW_pan, giveW, resultsA, tupA, ground_not, notO_bool, fb_lss, fb_leq, fb_gtr, fb_geq, fb_add, fb_eqlI, fb_neqI, Nat.reduceLT, Nat.reduceAdd, Nat.reduceEqDiff, if_true, if_false, reduceIte, true_and, and_true, Option.getD_some, List.getElem?_toArray, List.getElem?_cons_succ, List.getElem?_cons_zero, Option.bind_some, List.nil_append, List.append_nil, beq_self_eq_true, Bool.false_eq_true, Bool.true_eq_false, decide_true, decide_false, Bool.not_true, Bool.not_false, Bool.false_beq, Bool.true_beq, Option.toList, List.head?_cons, List.head?_nil, WR_nil2, WR_op, WR_re2, execR_no, execR_val2, execR_skip2, execR_enter2, execR_pan2, putRW_none2, putRW_some2, retRW_ret2, retRW_pan2, fixQ_normal2, fixQ_pan2, rsOf, ssA, ssC, ssRest, Tryz.f9, hlen, h0, h7, hlt]
    exact .inr ⟨_, rfl⟩
theorem w10 (na : AV) (i : Nat) (hi : i ≤ 1000) (f : T AV) (S : St) (h : Fs f na i) : W (E2 2366 [2349, 2341, 2301]) 59 ss10 ⟨f, []⟩ S (fun r => ∃ f', r = .out .normal ⟨f', []⟩ S ∧ Fs f' na i ∧ f'.get 8 = some (.v (.int .i64 ((i + 1 : Nat) : Int)))) := by
  obtain ⟨h0, h5, h7⟩ := h
  have hw := wrap_one (i := i) (by omega)
  simp only [thenW_normal, thenW_exit, thenW_ret, thenW_pan, W_skip, W_region, W_drawn, W_seq, W_cond, W_block, W_loop, W_exit, W_ret, seqQ_normal2, seqQ_exit2, seqQ_ret2, seqQ_pan2, blockW_normal2, blockW_ret2, blockW_pan2, blockW_exit2, WL_nil2, WL_cons, execL_no, execL_val2, execL_skip2, execL_enter2, execL_pan2, putL_none2, putL_some2, retL_ret2, retL_pan2, condW_t2, condW_f2, wantedA, exec1, evalO, initT, T.get_set, T.get_leaf, callA, mapO, ofOpt, ofOptS, ofConst, e2_P, e2_G, partsA, neNil3, finW_ret, finW_pan, giveW, resultsA, tupA, ground_not, notO_bool, fb_lss, fb_leq, fb_gtr, fb_geq, fb_add, fb_eqlI, fb_neqI, Nat.reduceLT, Nat.reduceAdd, Nat.reduceEqDiff, if_true, if_false, reduceIte, true_and, and_true, Option.getD_some, List.getElem?_toArray, List.getElem?_cons_succ, List.getElem?_cons_zero, Option.bind_some, List.nil_append, List.append_nil, beq_self_eq_true, Bool.false_eq_true, Bool.true_eq_false, decide_true, decide_false, Bool.not_true, Bool.not_false, Bool.false_beq, Bool.true_beq, Option.toList, List.head?_cons, List.head?_nil, WR_nil2, WR_op, WR_re2, execR_no, execR_val2, execR_skip2, execR_enter2, execR_pan2, putRW_none2, putRW_some2, retRW_ret2, retRW_pan2, fixQ_normal2, fixQ_pan2, rsOf, ss10, ssC, ssRest, Tryz.f9, h7, hw]
  exact ⟨_, rfl, ⟨by simp only [T.get_set, Nat.reduceEqDiff, if_false, h0], by simp only [T.get_set, Nat.reduceEqDiff, if_false, h5], by simp only [T.get_set, Nat.reduceEqDiff, if_false, h7]⟩, by simp only [T.get_set, Nat.reduceEqDiff, if_true]⟩
theorem w9 (na : AV) (i : Nat) (hi : i ≤ 1000) (f : T AV) (S : St) (h : Fs f na i) : W (E2 2366 [2349, 2341, 2301]) 59 ss9 ⟨f, []⟩ S (fun r => ∃ f', r = .out .normal ⟨f', []⟩ S ∧ Fs f' na (i + 1)) := by
  obtain ⟨h0, h5, h7⟩ := h
  have hw := wrap_one (i := i) (by omega)
  simp only [thenW_normal, thenW_exit, thenW_ret, thenW_pan, W_skip, W_region, W_drawn, W_seq, W_cond, W_block, W_loop, W_exit, W_ret, seqQ_normal2, seqQ_exit2, seqQ_ret2, seqQ_pan2, blockW_normal2, blockW_ret2, blockW_pan2, blockW_exit2, WL_nil2, WL_cons, execL_no, execL_val2, execL_skip2, execL_enter2, execL_pan2, putL_none2, putL_some2, retL_ret2, retL_pan2, condW_t2, condW_f2, wantedA, exec1, evalO, initT, T.get_set, T.get_leaf, callA, mapO, ofOpt, ofOptS, ofConst, e2_P, e2_G, partsA, neNil3, finW_ret, finW_pan, giveW, resultsA, tupA, ground_not, notO_bool, fb_lss, fb_leq, fb_gtr, fb_geq, fb_add, fb_eqlI, fb_neqI, Nat.reduceLT, Nat.reduceAdd, Nat.reduceEqDiff, if_true, if_false, reduceIte, true_and, and_true, Option.getD_some, List.getElem?_toArray, List.getElem?_cons_succ, List.getElem?_cons_zero, Option.bind_some, List.nil_append, List.append_nil, beq_self_eq_true, Bool.false_eq_true, Bool.true_eq_false, decide_true, decide_false, Bool.not_true, Bool.not_false, Bool.false_beq, Bool.true_beq, Option.toList, List.head?_cons, List.head?_nil, WR_nil2, WR_op, WR_re2, execR_no, execR_val2, execR_skip2, execR_enter2, execR_pan2, putRW_none2, putRW_some2, retRW_ret2, retRW_pan2, fixQ_normal2, fixQ_pan2, rsOf, ss9, ssC, ssRest, Tryz.f9, h7, hw, neNil3]
  exact ⟨_, rfl, by simp only [T.get_set, Nat.reduceEqDiff, if_false, h0], by simp only [T.get_set, Nat.reduceEqDiff, if_false, h5], by simp only [T.get_set, Nat.reduceEqDiff, if_true]⟩
theorem box2 (S : St) (a b : Int) : oBuildBox Tryz.prog S 47 2 [(0, .v (.int .i64 a)), (1, .v (.int .i64 b))] = some (.bs S.next 0 2 1, S.newBox [i64A a, i64A b]) := by kernel_rfl
theorem b11 (na : AV) (i : Nat) (hi : i ≤ 1000) (f : T AV) (S : St) (h : Fs f na i) (h8 : f.get 8 = some (.v (.int .i64 ((i + 1 : Nat) : Int)))) : ∃ f', runLB (E2 2366 [2349, 2341, 2301]) (fun _ _ _ => .fail) 59 ss11 ss11.toList ⟨f, []⟩ S = .out .normal ⟨f', []⟩ (S.newBox [i64A ((2 * (i + 1) : Nat) : Int), i64A ((3 * i : Nat) : Int)]) ∧ Fs f' na i ∧ f'.get 8 = some (.v (.int .i64 ((i + 1 : Nat) : Int))) ∧ f'.get 9 = some (.v (.int .i64 0)) ∧ f'.get 10 = some (.bs S.next 0 2 1) := by
  obtain ⟨h0, h5, h7⟩ := h
  have w1 : IntKind.i64.wrap (2 * ((i + 1 : Nat) : Int)) = ((2 * (i + 1) : Nat) : Int) := by
    have e : 2 * ((i + 1 : Nat) : Int) = ((2 * (i + 1) : Nat) : Int) := by push_cast; omega
    rw [e]; exact wrap_nat (by omega)
  have w2 : IntKind.i64.wrap (((i + 1 : Nat) : Int) - 1) = (i : Int) := by
    have e : ((i + 1 : Nat) : Int) - 1 = (i : Int) := by push_cast; omega
    rw [e]; exact wrap_nat (by omega)
  have w3 : IntKind.i64.wrap (3 * (i : Int)) = ((3 * i : Nat) : Int) := by
    have e : 3 * (i : Int) = ((3 * i : Nat) : Int) := by push_cast; omega
    rw [e]; exact wrap_nat (by omega)
  simp only [thenW_normal, thenW_exit, thenW_ret, thenW_pan, W_skip, W_region, W_drawn, W_seq, W_cond, W_block, W_loop, W_exit, W_ret, seqQ_normal2, seqQ_exit2, seqQ_ret2, seqQ_pan2, blockW_normal2, blockW_ret2, blockW_pan2, blockW_exit2, WL_nil2, WL_cons, execL_no, execL_val2, execL_skip2, execL_enter2, execL_pan2, putL_none2, putL_some2, retL_ret2, retL_pan2, condW_t2, condW_f2, wantedA, exec1, evalO, initT, T.get_set, T.get_leaf, callA, mapO, ofOpt, ofOptS, ofConst, e2_P, e2_G, partsA, neNil3, finW_ret, finW_pan, giveW, resultsA, tupA, ground_not, notO_bool, fb_lss, fb_leq, fb_gtr, fb_geq, fb_add, fb_eqlI, fb_neqI, Nat.reduceLT, Nat.reduceAdd, Nat.reduceEqDiff, if_true, if_false, reduceIte, true_and, and_true, Option.getD_some, List.getElem?_toArray, List.getElem?_cons_succ, List.getElem?_cons_zero, Option.bind_some, List.nil_append, List.append_nil, beq_self_eq_true, Bool.false_eq_true, Bool.true_eq_false, decide_true, decide_false, Bool.not_true, Bool.not_false, Bool.false_beq, Bool.true_beq, Option.toList, List.head?_cons, List.head?_nil, WR_nil2, WR_op, WR_re2, execR_no, execR_val2, execR_skip2, execR_enter2, execR_pan2, putRW_none2, putRW_some2, retRW_ret2, retRW_pan2, fixQ_normal2, fixQ_pan2, rsOf, ss11, ssC, ssRest, Tryz.f9, runLB, stepOB, exec1B, putA, h7, h8, fb_mul, fb_sub, neNil2, w1, w2, w3, box2]
  exact ⟨_, rfl, ⟨by simp only [T.get_set, Nat.reduceEqDiff, if_false, h0], by simp only [T.get_set, Nat.reduceEqDiff, if_false, h5], by simp only [T.get_set, Nat.reduceEqDiff, if_false, h7]⟩, by simp only [T.get_set, Nat.reduceEqDiff, if_false, h8], by simp only [T.get_set, Nat.reduceEqDiff, if_true, if_false], by simp only [T.get_set, Nat.reduceEqDiff, if_true, if_false]⟩
end Go.Ax
noncomputable section
namespace Go.Ax
open Go.RowKit Go.Proofs
set_option linter.unusedVariables false
set_option linter.unusedSimpArgs false
set_option maxRecDepth 100000
section
variable {N : Nat} {ids : List Nat}
/-- A row of numbers that stands in a box. -/
theorem len22b (S : St) (k n : Nat) : oLen Tryz.prog S 47 (.bs k 0 n 1) = some n := by simp [oLen, u22]
theorem idx22b (k n i : Nat) (h : i < n) : oIndexAddr Tryz.prog 47 (.bs k 0 n 1) (.v (.int .i64 (i : Int))) = some (.ptr k i) := by
  have h0 : (0 : Int) ≤ (i : Int) := by omega
  simp [oIndexAddr, h0, e22, s2, h]
theorem ld2b {S : St} {k i : Nat} {cs : List AV} {x : Int} (h : S.mem.get k = some (.box cs)) (hx : cs[i]? = some (i64A x)) : oLoad Tryz.prog S 2 (.ptr k i) = some (.v (.int .i64 x)) := by
  obtain ⟨hi, _⟩ := List.getElem?_eq_some_iff.1 hx
  have hle : i ≤ cs.length := by omega
  simp [oLoad, behind, h, a2, hle, List.head?_drop, hx, i64A]
theorem same_loopb (t1 o1 k : Nat) (l : List Int) (hl : l.length ≤ 1000) (S : St) (hk : S.mem.get k = some (.box (l.map i64A))) : ∀ (m i : Nat) (t : T AV), i + m = l.length → t.get 0 = some (rowI t1 o1 l) → t.get 1 = some (.bs k 0 l.length 1) → t.get 12 = some (intA l.length) → t.get 13 = some (intA i) →
    WX (E2 N ids) 26 (.loop sameBody) ⟨t, []⟩ S (fun r => ∃ t', r = .out (.exit 0) ⟨t', []⟩ S)
  | 0, i, t, hi, h0, h1, h12, h13 => by
    refine WX_loop (W_sound ?_)
    have hlt : ¬ ((i : Int) < (l.length : Int)) := by omega
    simp only [intA] at h12 h13
    simp only [thenW_normal, thenW_exit, thenW_ret, thenW_pan, W_skip, W_region, W_drawn, W_seq, W_cond, W_block, W_loop, W_exit, W_ret, seqQ_normal2, seqQ_exit2, seqQ_ret2, seqQ_pan2, blockW_normal2, blockW_ret2, blockW_pan2, blockW_exit2, WL_nil2, WL_cons, execL_no, execL_val2, execL_skip2, execL_enter2, execL_pan2, putL_none2, putL_some2, retL_ret2, retL_pan2, condW_t2, condW_f2, wantedA, exec1, evalO, initT, T.get_set, T.get_leaf, callA, mapO, ofOpt, ofOptS, ofConst, e2_P, e2_G, partsA, neNil3, finW_ret, finW_pan, giveW, resultsA, tupA, ground_not, notO_bool, fb_lss, fb_leq, fb_gtr, fb_geq, fb_add, fb_eqlI, fb_neqI, Nat.reduceLT, Nat.reduceAdd, Nat.reduceEqDiff, if_true, if_false, reduceIte, true_and, and_true, Option.getD_some, List.getElem?_toArray, List.getElem?_cons_succ, List.getElem?_cons_zero, Option.bind_some, List.nil_append, List.append_nil, beq_self_eq_true, Bool.false_eq_true, Bool.true_eq_false, decide_true, decide_false, Bool.not_true, Bool.not_false, Bool.false_beq, Bool.true_beq, Option.toList, List.head?_cons, List.head?_nil, WR_nil2, WR_op, WR_re2, execR_no, execR_val2, execR_skip2, execR_enter2, execR_pan2, putRW_none2, putRW_some2, retRW_ret2, retRW_pan2, fixQ_normal2, fixQ_pan2, rsOf, sameBody, Tryz.f26, h12, h13, hlt]
    exact ⟨_, rfl⟩
  | m + 1, i, t, hi, h0, h1, h12, h13 => by
    refine WX_loop (W_sound ?_)
    have hil : i < l.length := by omega
    have hlt : ((i : Int) < (l.length : Int)) := by omega
    have hx := idx22 t1 o1 l i hil
    have hy := idx22b k l.length i hil
    have hz := ld2b (i := i) (x := l[i]) hk (by simp [hil])
    have hw := wrap_one (i := i) (by omega)
    have hne : (l[i] != l[i]) = false := by simp
    simp only [intA] at h12 h13
    simp only [thenW_normal, thenW_exit, thenW_ret, thenW_pan, W_skip, W_region, W_drawn, W_seq, W_cond, W_block, W_loop, W_exit, W_ret, seqQ_normal2, seqQ_exit2, seqQ_ret2, seqQ_pan2, blockW_normal2, blockW_ret2, blockW_pan2, blockW_exit2, WL_nil2, WL_cons, execL_no, execL_val2, execL_skip2, execL_enter2, execL_pan2, putL_none2, putL_some2, retL_ret2, retL_pan2, condW_t2, condW_f2, wantedA, exec1, evalO, initT, T.get_set, T.get_leaf, callA, mapO, ofOpt, ofOptS, ofConst, e2_P, e2_G, partsA, neNil3, finW_ret, finW_pan, giveW, resultsA, tupA, ground_not, notO_bool, fb_lss, fb_leq, fb_gtr, fb_geq, fb_add, fb_eqlI, fb_neqI, Nat.reduceLT, Nat.reduceAdd, Nat.reduceEqDiff, if_true, if_false, reduceIte, true_and, and_true, Option.getD_some, List.getElem?_toArray, List.getElem?_cons_succ, List.getElem?_cons_zero, Option.bind_some, List.nil_append, List.append_nil, beq_self_eq_true, Bool.false_eq_true, Bool.true_eq_false, decide_true, decide_false, Bool.not_true, Bool.not_false, Bool.false_beq, Bool.true_beq, Option.toList, List.head?_cons, List.head?_nil, WR_nil2, WR_op, WR_re2, execR_no, execR_val2, execR_skip2, execR_enter2, execR_pan2, putRW_none2, putRW_some2, retRW_ret2, retRW_pan2, fixQ_normal2, fixQ_pan2, rsOf, sameBody, Tryz.f26, h12, h13, hlt]
    refine WD_by [(0, true), (1, true), (2, true), (3, true), (4, true), (5, true), (6, true), (7, true), (8, true)] (by kernel_rfl) (by kernel_rfl) ?_
    simp only [thenW_normal, thenW_exit, thenW_ret, thenW_pan, W_skip, W_region, W_drawn, W_seq, W_cond, W_block, W_loop, W_exit, W_ret, seqQ_normal2, seqQ_exit2, seqQ_ret2, seqQ_pan2, blockW_normal2, blockW_ret2, blockW_pan2, blockW_exit2, WL_nil2, WL_cons, execL_no, execL_val2, execL_skip2, execL_enter2, execL_pan2, putL_none2, putL_some2, retL_ret2, retL_pan2, condW_t2, condW_f2, wantedA, exec1, evalO, initT, T.get_set, T.get_leaf, callA, mapO, ofOpt, ofOptS, ofConst, e2_P, e2_G, partsA, neNil3, finW_ret, finW_pan, giveW, resultsA, tupA, ground_not, notO_bool, fb_lss, fb_leq, fb_gtr, fb_geq, fb_add, fb_eqlI, fb_neqI, Nat.reduceLT, Nat.reduceAdd, Nat.reduceEqDiff, if_true, if_false, reduceIte, true_and, and_true, Option.getD_some, List.getElem?_toArray, List.getElem?_cons_succ, List.getElem?_cons_zero, Option.bind_some, List.nil_append, List.append_nil, beq_self_eq_true, Bool.false_eq_true, Bool.true_eq_false, decide_true, decide_false, Bool.not_true, Bool.not_false, Bool.false_beq, Bool.true_beq, Option.toList, List.head?_cons, List.head?_nil, WR_nil2, WR_op, WR_re2, execR_no, execR_val2, execR_skip2, execR_enter2, execR_pan2, putRW_none2, putRW_some2, retRW_ret2, retRW_pan2, fixQ_normal2, fixQ_pan2, rsOf, h0, h1, h13, hx, hy, hz, ld2, neNil2, hne, hw]
    refine WX.mono (same_loopb t1 o1 k l hl S hk m (i + 1) _ (by omega) ?_ ?_ ?_ ?_) (fun r h => h)
    · simp only [T.get_set, Nat.reduceEqDiff, if_false, h0]
    · simp only [T.get_set, Nat.reduceEqDiff, if_false, h1]
    · simp only [T.get_set, Nat.reduceEqDiff, if_false, h12]; rfl
    · simp only [T.get_set, Nat.reduceEqDiff, if_true]; rfl
theorem same_wb (t1 o1 k : Nat) (l : List Int) (hl : l.length ≤ 1000) (S : St) (hk : S.mem.get k = some (.box (l.map i64A))) : WC (E2 N ids) 26 [rowI t1 o1 l, .bs k 0 l.length 1] S (fun r => r = .ret (.v (.int .i64 0)) S) := by
  refine WC_fn Tryz.f26 (by kernel_rfl) (by kernel_rfl) (by kernel_rfl) (show (_ : Nat) ≤ _ from by show (_ : Nat) ≤ _; simp [Tryz.f26]) ?_
  have hne : (((l.length : Nat) : Int) != ((l.length : Nat) : Int)) = false := by simp
  have hl1 := len22 S t1 o1 l
  have hl2 := len22b S k l.length
  simp only [thenW_normal, thenW_exit, thenW_ret, thenW_pan, W_skip, W_region, W_drawn, W_seq, W_cond, W_block, W_loop, W_exit, W_ret, seqQ_normal2, seqQ_exit2, seqQ_ret2, seqQ_pan2, blockW_normal2, blockW_ret2, blockW_pan2, blockW_exit2, WL_nil2, WL_cons, execL_no, execL_val2, execL_skip2, execL_enter2, execL_pan2, putL_none2, putL_some2, retL_ret2, retL_pan2, condW_t2, condW_f2, wantedA, exec1, evalO, initT, T.get_set, T.get_leaf, callA, mapO, ofOpt, ofOptS, ofConst, e2_P, e2_G, partsA, neNil3, finW_ret, finW_pan, giveW, resultsA, tupA, ground_not, notO_bool, fb_lss, fb_leq, fb_gtr, fb_geq, fb_add, fb_eqlI, fb_neqI, Nat.reduceLT, Nat.reduceAdd, Nat.reduceEqDiff, if_true, if_false, reduceIte, true_and, and_true, Option.getD_some, List.getElem?_toArray, List.getElem?_cons_succ, List.getElem?_cons_zero, Option.bind_some, List.nil_append, List.append_nil, beq_self_eq_true, Bool.false_eq_true, Bool.true_eq_false, decide_true, decide_false, Bool.not_true, Bool.not_false, Bool.false_beq, Bool.true_beq, Option.toList, List.head?_cons, List.head?_nil, WR_nil2, WR_op, WR_re2, execR_no, execR_val2, execR_skip2, execR_enter2, execR_pan2, putRW_none2, putRW_some2, retRW_ret2, retRW_pan2, fixQ_normal2, fixQ_pan2, rsOf, Tryz.f26, hl1, hl2, hne]
  refine WX.mono (same_loopb t1 o1 k l hl S hk l.length 0 _ (by omega) ?_ ?_ ?_ ?_) ?_
  · simp [T.get_set]
  · simp [T.get_set]
  · simp [T.get_set, intA]
  · simp [T.get_set, intA]
  rintro _ ⟨t', rfl⟩
  simp only [thenW_normal, thenW_exit, thenW_ret, thenW_pan, W_skip, W_region, W_drawn, W_seq, W_cond, W_block, W_loop, W_exit, W_ret, seqQ_normal2, seqQ_exit2, seqQ_ret2, seqQ_pan2, blockW_normal2, blockW_ret2, blockW_pan2, blockW_exit2, WL_nil2, WL_cons, execL_no, execL_val2, execL_skip2, execL_enter2, execL_pan2, putL_none2, putL_some2, retL_ret2, retL_pan2, condW_t2, condW_f2, wantedA, exec1, evalO, initT, T.get_set, T.get_leaf, callA, mapO, ofOpt, ofOptS, ofConst, e2_P, e2_G, partsA, neNil3, finW_ret, finW_pan, giveW, resultsA, tupA, ground_not, notO_bool, fb_lss, fb_leq, fb_gtr, fb_geq, fb_add, fb_eqlI, fb_neqI, Nat.reduceLT, Nat.reduceAdd, Nat.reduceEqDiff, if_true, if_false, reduceIte, true_and, and_true, Option.getD_some, List.getElem?_toArray, List.getElem?_cons_succ, List.getElem?_cons_zero, Option.bind_some, List.nil_append, List.append_nil, beq_self_eq_true, Bool.false_eq_true, Bool.true_eq_false, decide_true, decide_false, Bool.not_true, Bool.not_false, Bool.false_beq, Bool.true_beq, Option.toList, List.head?_cons, List.head?_nil, WR_nil2, WR_op, WR_re2, execR_no, execR_val2, execR_skip2, execR_enter2, execR_pan2, putRW_none2, putRW_some2, retRW_ret2, retRW_pan2, fixQ_normal2, fixQ_pan2, rsOf, Tryz.f26]
end
theorem st2b {S : St} {k : Nat} {a b c : Int} (h : S.mem.get k = some (.box [i64A a, i64A b])) : oStore Tryz.prog S 2 (.ptr k 1) (.v (.int .i64 c)) = some (S.put k [i64A a, i64A c]) := by
  have h2 : (AV.v (.int .i64 c)).noTup = true := rfl
  simp [oStore, h, s2, h2, AV.cells, St.put, i64A]
theorem ixb1 (k : Nat) : oIndexAddr Tryz.prog 47 (.bs k 0 2 1) (.v (.int .i64 1)) = some (.ptr k 1) := idx22b k 2 1 (by omega)
theorem SsI.put {S : St} {i k : Nat} {cs : List AV} (h : SsI S i) (hk : 2366 ≤ k) : SsI (S.put k cs) i := by
  obtain ⟨h1, h2, h3, h4⟩ := h
  have old : ∀ j, j < 2366 → (S.put k cs).mem.get j = S.mem.get j := fun j hj => by
    show (S.mem.set k _).get j = _
    rw [T.get_set, if_neg (by omega)]
  obtain ⟨v0, v1, v2, v3, v4, v5, v6, v7, v8, v9, v10, v11, v12, v13, v14, v15, v16, v17, v18, v19, v20, v21, v22, v23, hp, e⟩ := h4
  exact ⟨h1, (old _ (by omega)).trans h2, (old _ (by omega)).trans h3, v0, v1, v2, v3, v4, v5, v6, v7, v8, v9, v10, v11, v12, v13, v14, v15, v16, v17, v18, v19, v20, v21, v22, v23, (old _ (by omega)).trans hp, e⟩
theorem SsI.new {S : St} {i : Nat} {cs : List AV} (h : SsI S i) : SsI (S.newBox cs) i := by
  obtain ⟨h1, h2, h3, h4⟩ := h
  have old : ∀ j, j < 2366 → (S.newBox cs).mem.get j = S.mem.get j := fun j hj => by
    show (S.mem.set S.next _).get j = _
    rw [T.get_set, if_neg (by omega)]
  obtain ⟨v0, v1, v2, v3, v4, v5, v6, v7, v8, v9, v10, v11, v12, v13, v14, v15, v16, v17, v18, v19, v20, v21, v22, v23, hp, e⟩ := h4
  exact ⟨Nat.le_succ_of_le h1, (old _ (by omega)).trans h2, (old _ (by omega)).trans h3, v0, v1, v2, v3, v4, v5, v6, v7, v8, v9, v10, v11, v12, v13, v14, v15, v16, v17, v18, v19, v20, v21, v22, v23, (old _ (by omega)).trans hp, e⟩
theorem wY (na : AV) (bs : List Bool) (hna : isRowB na bs) (i : Nat) (hil : i < bs.length) (hi : i < 40) (k : Nat) (hk : 2366 ≤ k) (f : T AV) (S : St) (hS : SsI S i) (hb : S.mem.get k = some (.box [i64A ((2 * (i + 1) : Nat) : Int), i64A ((3 * i : Nat) : Int)])) (h : Fs f na i) (h8 : f.get 8 = some (.v (.int .i64 ((i + 1 : Nat) : Int)))) (h9 : f.get 9 = some (.v (.int .i64 0))) (h10 : f.get 10 = some (.bs k 0 2 1)) :
    W (E2 2366 [2349, 2341, 2301]) 59 ssY ⟨f, []⟩ S (fun r => ∃ f' S', r = .out .normal ⟨f', []⟩ S' ∧ Fs f' na i ∧ SsI S' (i + 1)) := by
  obtain ⟨h0, h5, h7⟩ := h
  have hx := idx36 hna i hil
  have hx1 := ixb1 k
  obtain ⟨fn11, hf11⟩ := f11_some
  obtain ⟨fn10, hf10⟩ := f10_some
  have hne0 : ((0 : Int) != 0) = false := rfl
  have hnk : k ∉ [2349, 2341, 2301] := by
    intro h
    simp only [List.mem_cons, List.not_mem_nil, or_false] at h
    omega
  by_cases hz : i = 0
  · have hz0 : ((i : Int) == 0) = true := by rw [hz]; rfl
    have hst := st2b (c := 7) hb
    have hS1 := hS.put (cs := [i64A ((2 * (i + 1) : Nat) : Int), i64A 7]) hk
    have hb1 : (S.put k [i64A ((2 * (i + 1) : Nat) : Int), i64A 7]).mem.get k = some (.box [i64A ((2 * (i + 1) : Nat) : Int), i64A 7]) := put_get S k _
    have hzI : zI i = 7 := if_pos hz
    generalize S.put k [i64A ((2 * (i + 1) : Nat) : Int), i64A 7] = S1 at hst hS1 hb1
    simp only [thenW_normal, thenW_exit, thenW_ret, thenW_pan, W_skip, W_region, W_drawn, W_seq, W_cond, W_block, W_loop, W_exit, W_ret, seqQ_normal2, seqQ_exit2, seqQ_ret2, seqQ_pan2, blockW_normal2, blockW_ret2, blockW_pan2, blockW_exit2, WL_nil2, WL_cons, execL_no, execL_val2, execL_skip2, execL_enter2, execL_pan2, putL_none2, putL_some2, retL_ret2, retL_pan2, condW_t2, condW_f2, wantedA, exec1, evalO, initT, T.get_set, T.get_leaf, callA, mapO, ofOpt, ofOptS, ofConst, e2_P, e2_G, partsA, neNil3, finW_ret, finW_pan, giveW, resultsA, tupA, ground_not, notO_bool, fb_lss, fb_leq, fb_gtr, fb_geq, fb_add, fb_eqlI, fb_neqI, Nat.reduceLT, Nat.reduceAdd, Nat.reduceEqDiff, if_true, if_false, reduceIte, true_and, and_true, Option.getD_some, List.getElem?_toArray, List.getElem?_cons_succ, List.getElem?_cons_zero, Option.bind_some, List.nil_append, List.append_nil, beq_self_eq_true, Bool.false_eq_true, Bool.true_eq_false, decide_true, decide_false, Bool.not_true, Bool.not_false, Bool.false_beq, Bool.true_beq, Option.toList, List.head?_cons, List.head?_nil, WR_nil2, WR_op, WR_re2, execR_no, execR_val2, execR_skip2, execR_enter2, execR_pan2, putRW_none2, putRW_some2, retRW_ret2, retRW_pan2, fixQ_normal2, fixQ_pan2, rsOf, ssY, ssC, ssRest, Tryz.f9, h0, h5, h7, h8, h9, h10, hz0, hx1, hst, hx, ld4]
    cases hbi : bs[i] with
    | true =>
      obtain ⟨S', hr, hS', hn', hold⟩ := ss_round S1 i hS1 (by omega) true
      simp only [thenW_normal, thenW_exit, thenW_ret, thenW_pan, W_skip, W_region, W_drawn, W_seq, W_cond, W_block, W_loop, W_exit, W_ret, seqQ_normal2, seqQ_exit2, seqQ_ret2, seqQ_pan2, blockW_normal2, blockW_ret2, blockW_pan2, blockW_exit2, WL_nil2, WL_cons, execL_no, execL_val2, execL_skip2, execL_enter2, execL_pan2, putL_none2, putL_some2, retL_ret2, retL_pan2, condW_t2, condW_f2, wantedA, exec1, evalO, initT, T.get_set, T.get_leaf, callA, mapO, ofOpt, ofOptS, ofConst, e2_P, e2_G, partsA, neNil3, finW_ret, finW_pan, giveW, resultsA, tupA, ground_not, notO_bool, fb_lss, fb_leq, fb_gtr, fb_geq, fb_add, fb_eqlI, fb_neqI, Nat.reduceLT, Nat.reduceAdd, Nat.reduceEqDiff, if_true, if_false, reduceIte, true_and, and_true, Option.getD_some, List.getElem?_toArray, List.getElem?_cons_succ, List.getElem?_cons_zero, Option.bind_some, List.nil_append, List.append_nil, beq_self_eq_true, Bool.false_eq_true, Bool.true_eq_false, decide_true, decide_false, Bool.not_true, Bool.not_false, Bool.false_beq, Bool.true_beq, Option.toList, List.head?_cons, List.head?_nil, WR_nil2, WR_op, WR_re2, execR_no, execR_val2, execR_skip2, execR_enter2, execR_pan2, putRW_none2, putRW_some2, retRW_ret2, retRW_pan2, fixQ_normal2, fixQ_pan2, rsOf, hbi, e2_F, hf10, hf11, neNil2, row1, row2, hne0, h0, h5, h7, h8, h9, h10]
      refine WC_known (e2_i11 ..) ?_
      rw [show viaSmall E1 2000 27 2366 [2349, 2341, 2301] [.ptr 2349 0, rowI 1 0 [1]] S1 = _ from hr]
      simp only [thenW_normal, thenW_exit, thenW_ret, thenW_pan, W_skip, W_region, W_drawn, W_seq, W_cond, W_block, W_loop, W_exit, W_ret, seqQ_normal2, seqQ_exit2, seqQ_ret2, seqQ_pan2, blockW_normal2, blockW_ret2, blockW_pan2, blockW_exit2, WL_nil2, WL_cons, execL_no, execL_val2, execL_skip2, execL_enter2, execL_pan2, putL_none2, putL_some2, retL_ret2, retL_pan2, condW_t2, condW_f2, wantedA, exec1, evalO, initT, T.get_set, T.get_leaf, callA, mapO, ofOpt, ofOptS, ofConst, e2_P, e2_G, partsA, neNil3, finW_ret, finW_pan, giveW, resultsA, tupA, ground_not, notO_bool, fb_lss, fb_leq, fb_gtr, fb_geq, fb_add, fb_eqlI, fb_neqI, Nat.reduceLT, Nat.reduceAdd, Nat.reduceEqDiff, if_true, if_false, reduceIte, true_and, and_true, Option.getD_some, List.getElem?_toArray, List.getElem?_cons_succ, List.getElem?_cons_zero, Option.bind_some, List.nil_append, List.append_nil, beq_self_eq_true, Bool.false_eq_true, Bool.true_eq_false, decide_true, decide_false, Bool.not_true, Bool.not_false, Bool.false_beq, Bool.true_beq, Option.toList, List.head?_cons, List.head?_nil, WR_nil2, WR_op, WR_re2, execR_no, execR_val2, execR_skip2, execR_enter2, execR_pan2, putRW_none2, putRW_some2, retRW_ret2, retRW_pan2, fixQ_normal2, fixQ_pan2, rsOf, hbi, e2_F, hf10, hf11, neNil2, row1, row2, hne0, h0, h5, h7, h8, h9, h10]
      refine WC.mono (same_w 0 0 1 0 [((i + 1 : Nat) : Int), 0] (by simp) S') ?_
      rintro _ rfl
      simp only [thenW_normal, thenW_exit, thenW_ret, thenW_pan, W_skip, W_region, W_drawn, W_seq, W_cond, W_block, W_loop, W_exit, W_ret, seqQ_normal2, seqQ_exit2, seqQ_ret2, seqQ_pan2, blockW_normal2, blockW_ret2, blockW_pan2, blockW_exit2, WL_nil2, WL_cons, execL_no, execL_val2, execL_skip2, execL_enter2, execL_pan2, putL_none2, putL_some2, retL_ret2, retL_pan2, condW_t2, condW_f2, wantedA, exec1, evalO, initT, T.get_set, T.get_leaf, callA, mapO, ofOpt, ofOptS, ofConst, e2_P, e2_G, partsA, neNil3, finW_ret, finW_pan, giveW, resultsA, tupA, ground_not, notO_bool, fb_lss, fb_leq, fb_gtr, fb_geq, fb_add, fb_eqlI, fb_neqI, Nat.reduceLT, Nat.reduceAdd, Nat.reduceEqDiff, if_true, if_false, reduceIte, true_and, and_true, Option.getD_some, List.getElem?_toArray, List.getElem?_cons_succ, List.getElem?_cons_zero, Option.bind_some, List.nil_append, List.append_nil, beq_self_eq_true, Bool.false_eq_true, Bool.true_eq_false, decide_true, decide_false, Bool.not_true, Bool.not_false, Bool.false_beq, Bool.true_beq, Option.toList, List.head?_cons, List.head?_nil, WR_nil2, WR_op, WR_re2, execR_no, execR_val2, execR_skip2, execR_enter2, execR_pan2, putRW_none2, putRW_some2, retRW_ret2, retRW_pan2, fixQ_normal2, fixQ_pan2, rsOf, hbi, e2_F, hf10, hf11, neNil2, row1, row2, hne0, h0, h5, h7, h8, h9, h10]
      exact ⟨_, _, rfl, ⟨by simp only [T.get_set, Nat.reduceEqDiff, if_false, h0], by simp only [T.get_set, Nat.reduceEqDiff, if_false, h5], by simp only [T.get_set, Nat.reduceEqDiff, if_false, h7]⟩, hS'⟩
    | false =>
      obtain ⟨S', hr, hS', hn', hold⟩ := ss_round S1 i hS1 (by omega) false
      have hb' := (hold k hnk).trans hb1
      rw [show wI false i = 7 from hzI] at hr
      simp only [thenW_normal, thenW_exit, thenW_ret, thenW_pan, W_skip, W_region, W_drawn, W_seq, W_cond, W_block, W_loop, W_exit, W_ret, seqQ_normal2, seqQ_exit2, seqQ_ret2, seqQ_pan2, blockW_normal2, blockW_ret2, blockW_pan2, blockW_exit2, WL_nil2, WL_cons, execL_no, execL_val2, execL_skip2, execL_enter2, execL_pan2, putL_none2, putL_some2, retL_ret2, retL_pan2, condW_t2, condW_f2, wantedA, exec1, evalO, initT, T.get_set, T.get_leaf, callA, mapO, ofOpt, ofOptS, ofConst, e2_P, e2_G, partsA, neNil3, finW_ret, finW_pan, giveW, resultsA, tupA, ground_not, notO_bool, fb_lss, fb_leq, fb_gtr, fb_geq, fb_add, fb_eqlI, fb_neqI, Nat.reduceLT, Nat.reduceAdd, Nat.reduceEqDiff, if_true, if_false, reduceIte, true_and, and_true, Option.getD_some, List.getElem?_toArray, List.getElem?_cons_succ, List.getElem?_cons_zero, Option.bind_some, List.nil_append, List.append_nil, beq_self_eq_true, Bool.false_eq_true, Bool.true_eq_false, decide_true, decide_false, Bool.not_true, Bool.not_false, Bool.false_beq, Bool.true_beq, Option.toList, List.head?_cons, List.head?_nil, WR_nil2, WR_op, WR_re2, execR_no, execR_val2, execR_skip2, execR_enter2, execR_pan2, putRW_none2, putRW_some2, retRW_ret2, retRW_pan2, fixQ_normal2, fixQ_pan2, rsOf, hbi, e2_F, hf10, hf11, neNil2, row1, row2, hne0, h0, h5, h7, h8, h9, h10]
      refine WC_known (e2_i11 ..) ?_
      rw [show viaSmall E1 2000 27 2366 [2349, 2341, 2301] [.ptr 2349 0, rowI 1 0 [0]] S1 = _ from hr]
      simp only [thenW_normal, thenW_exit, thenW_ret, thenW_pan, W_skip, W_region, W_drawn, W_seq, W_cond, W_block, W_loop, W_exit, W_ret, seqQ_normal2, seqQ_exit2, seqQ_ret2, seqQ_pan2, blockW_normal2, blockW_ret2, blockW_pan2, blockW_exit2, WL_nil2, WL_cons, execL_no, execL_val2, execL_skip2, execL_enter2, execL_pan2, putL_none2, putL_some2, retL_ret2, retL_pan2, condW_t2, condW_f2, wantedA, exec1, evalO, initT, T.get_set, T.get_leaf, callA, mapO, ofOpt, ofOptS, ofConst, e2_P, e2_G, partsA, neNil3, finW_ret, finW_pan, giveW, resultsA, tupA, ground_not, notO_bool, fb_lss, fb_leq, fb_gtr, fb_geq, fb_add, fb_eqlI, fb_neqI, Nat.reduceLT, Nat.reduceAdd, Nat.reduceEqDiff, if_true, if_false, reduceIte, true_and, and_true, Option.getD_some, List.getElem?_toArray, List.getElem?_cons_succ, List.getElem?_cons_zero, Option.bind_some, List.nil_append, List.append_nil, beq_self_eq_true, Bool.false_eq_true, Bool.true_eq_false, decide_true, decide_false, Bool.not_true, Bool.not_false, Bool.false_beq, Bool.true_beq, Option.toList, List.head?_cons, List.head?_nil, WR_nil2, WR_op, WR_re2, execR_no, execR_val2, execR_skip2, execR_enter2, execR_pan2, putRW_none2, putRW_some2, retRW_ret2, retRW_pan2, fixQ_normal2, fixQ_pan2, rsOf, hbi, e2_F, hf10, hf11, neNil2, row1, row2, hne0, h0, h5, h7, h8, h9, h10]
      refine WC.mono (same_wb 0 0 k [((2 * (i + 1) : Nat) : Int), 7] (by simp) S' hb') ?_
      rintro _ rfl
      simp only [thenW_normal, thenW_exit, thenW_ret, thenW_pan, W_skip, W_region, W_drawn, W_seq, W_cond, W_block, W_loop, W_exit, W_ret, seqQ_normal2, seqQ_exit2, seqQ_ret2, seqQ_pan2, blockW_normal2, blockW_ret2, blockW_pan2, blockW_exit2, WL_nil2, WL_cons, execL_no, execL_val2, execL_skip2, execL_enter2, execL_pan2, putL_none2, putL_some2, retL_ret2, retL_pan2, condW_t2, condW_f2, wantedA, exec1, evalO, initT, T.get_set, T.get_leaf, callA, mapO, ofOpt, ofOptS, ofConst, e2_P, e2_G, partsA, neNil3, finW_ret, finW_pan, giveW, resultsA, tupA, ground_not, notO_bool, fb_lss, fb_leq, fb_gtr, fb_geq, fb_add, fb_eqlI, fb_neqI, Nat.reduceLT, Nat.reduceAdd, Nat.reduceEqDiff, if_true, if_false, reduceIte, true_and, and_true, Option.getD_some, List.getElem?_toArray, List.getElem?_cons_succ, List.getElem?_cons_zero, Option.bind_some, List.nil_append, List.append_nil, beq_self_eq_true, Bool.false_eq_true, Bool.true_eq_false, decide_true, decide_false, Bool.not_true, Bool.not_false, Bool.false_beq, Bool.true_beq, Option.toList, List.head?_cons, List.head?_nil, WR_nil2, WR_op, WR_re2, execR_no, execR_val2, execR_skip2, execR_enter2, execR_pan2, putRW_none2, putRW_some2, retRW_ret2, retRW_pan2, fixQ_normal2, fixQ_pan2, rsOf, hbi, e2_F, hf10, hf11, neNil2, row1, row2, hne0, h0, h5, h7, h8, h9, h10]
      exact ⟨_, _, rfl, ⟨by simp only [T.get_set, Nat.reduceEqDiff, if_false, h0], by simp only [T.get_set, Nat.reduceEqDiff, if_false, h5], by simp only [T.get_set, Nat.reduceEqDiff, if_false, h7]⟩, hS'⟩
  · have hz0 : ((i : Int) == 0) = false := by
      have : (i : Int) ≠ 0 := by omega
      simpa using this
    have hzI : zI i = ((3 * i : Nat) : Int) := if_neg hz
    simp only [thenW_normal, thenW_exit, thenW_ret, thenW_pan, W_skip, W_region, W_drawn, W_seq, W_cond, W_block, W_loop, W_exit, W_ret, seqQ_normal2, seqQ_exit2, seqQ_ret2, seqQ_pan2, blockW_normal2, blockW_ret2, blockW_pan2, blockW_exit2, WL_nil2, WL_cons, execL_no, execL_val2, execL_skip2, execL_enter2, execL_pan2, putL_none2, putL_some2, retL_ret2, retL_pan2, condW_t2, condW_f2, wantedA, exec1, evalO, initT, T.get_set, T.get_leaf, callA, mapO, ofOpt, ofOptS, ofConst, e2_P, e2_G, partsA, neNil3, finW_ret, finW_pan, giveW, resultsA, tupA, ground_not, notO_bool, fb_lss, fb_leq, fb_gtr, fb_geq, fb_add, fb_eqlI, fb_neqI, Nat.reduceLT, Nat.reduceAdd, Nat.reduceEqDiff, if_true, if_false, reduceIte, true_and, and_true, Option.getD_some, List.getElem?_toArray, List.getElem?_cons_succ, List.getElem?_cons_zero, Option.bind_some, List.nil_append, List.append_nil, beq_self_eq_true, Bool.false_eq_true, Bool.true_eq_false, decide_true, decide_false, Bool.not_true, Bool.not_false, Bool.false_beq, Bool.true_beq, Option.toList, List.head?_cons, List.head?_nil, WR_nil2, WR_op, WR_re2, execR_no, execR_val2, execR_skip2, execR_enter2, execR_pan2, putRW_none2, putRW_some2, retRW_ret2, retRW_pan2, fixQ_normal2, fixQ_pan2, rsOf, ssY, ssC, ssRest, Tryz.f9, h0, h5, h7, h8, h9, h10, hz0, hx, ld4]
    cases hbi : bs[i] with
    | true =>
      obtain ⟨S', hr, hS', hn', hold⟩ := ss_round S i hS (by omega) true
      simp only [thenW_normal, thenW_exit, thenW_ret, thenW_pan, W_skip, W_region, W_drawn, W_seq, W_cond, W_block, W_loop, W_exit, W_ret, seqQ_normal2, seqQ_exit2, seqQ_ret2, seqQ_pan2, blockW_normal2, blockW_ret2, blockW_pan2, blockW_exit2, WL_nil2, WL_cons, execL_no, execL_val2, execL_skip2, execL_enter2, execL_pan2, putL_none2, putL_some2, retL_ret2, retL_pan2, condW_t2, condW_f2, wantedA, exec1, evalO, initT, T.get_set, T.get_leaf, callA, mapO, ofOpt, ofOptS, ofConst, e2_P, e2_G, partsA, neNil3, finW_ret, finW_pan, giveW, resultsA, tupA, ground_not, notO_bool, fb_lss, fb_leq, fb_gtr, fb_geq, fb_add, fb_eqlI, fb_neqI, Nat.reduceLT, Nat.reduceAdd, Nat.reduceEqDiff, if_true, if_false, reduceIte, true_and, and_true, Option.getD_some, List.getElem?_toArray, List.getElem?_cons_succ, List.getElem?_cons_zero, Option.bind_some, List.nil_append, List.append_nil, beq_self_eq_true, Bool.false_eq_true, Bool.true_eq_false, decide_true, decide_false, Bool.not_true, Bool.not_false, Bool.false_beq, Bool.true_beq, Option.toList, List.head?_cons, List.head?_nil, WR_nil2, WR_op, WR_re2, execR_no, execR_val2, execR_skip2, execR_enter2, execR_pan2, putRW_none2, putRW_some2, retRW_ret2, retRW_pan2, fixQ_normal2, fixQ_pan2, rsOf, hbi, e2_F, hf10, hf11, neNil2, row1, row2, hne0, h0, h5, h7, h8, h9, h10]
      refine WC_known (e2_i11 ..) ?_
      rw [show viaSmall E1 2000 27 2366 [2349, 2341, 2301] [.ptr 2349 0, rowI 1 0 [1]] S = _ from hr]
      simp only [thenW_normal, thenW_exit, thenW_ret, thenW_pan, W_skip, W_region, W_drawn, W_seq, W_cond, W_block, W_loop, W_exit, W_ret, seqQ_normal2, seqQ_exit2, seqQ_ret2, seqQ_pan2, blockW_normal2, blockW_ret2, blockW_pan2, blockW_exit2, WL_nil2, WL_cons, execL_no, execL_val2, execL_skip2, execL_enter2, execL_pan2, putL_none2, putL_some2, retL_ret2, retL_pan2, condW_t2, condW_f2, wantedA, exec1, evalO, initT, T.get_set, T.get_leaf, callA, mapO, ofOpt, ofOptS, ofConst, e2_P, e2_G, partsA, neNil3, finW_ret, finW_pan, giveW, resultsA, tupA, ground_not, notO_bool, fb_lss, fb_leq, fb_gtr, fb_geq, fb_add, fb_eqlI, fb_neqI, Nat.reduceLT, Nat.reduceAdd, Nat.reduceEqDiff, if_true, if_false, reduceIte, true_and, and_true, Option.getD_some, List.getElem?_toArray, List.getElem?_cons_succ, List.getElem?_cons_zero, Option.bind_some, List.nil_append, List.append_nil, beq_self_eq_true, Bool.false_eq_true, Bool.true_eq_false, decide_true, decide_false, Bool.not_true, Bool.not_false, Bool.false_beq, Bool.true_beq, Option.toList, List.head?_cons, List.head?_nil, WR_nil2, WR_op, WR_re2, execR_no, execR_val2, execR_skip2, execR_enter2, execR_pan2, putRW_none2, putRW_some2, retRW_ret2, retRW_pan2, fixQ_normal2, fixQ_pan2, rsOf, hbi, e2_F, hf10, hf11, neNil2, row1, row2, hne0, h0, h5, h7, h8, h9, h10]
      refine WC.mono (same_w 0 0 1 0 [((i + 1 : Nat) : Int), 0] (by simp) S') ?_
      rintro _ rfl
      simp only [thenW_normal, thenW_exit, thenW_ret, thenW_pan, W_skip, W_region, W_drawn, W_seq, W_cond, W_block, W_loop, W_exit, W_ret, seqQ_normal2, seqQ_exit2, seqQ_ret2, seqQ_pan2, blockW_normal2, blockW_ret2, blockW_pan2, blockW_exit2, WL_nil2, WL_cons, execL_no, execL_val2, execL_skip2, execL_enter2, execL_pan2, putL_none2, putL_some2, retL_ret2, retL_pan2, condW_t2, condW_f2, wantedA, exec1, evalO, initT, T.get_set, T.get_leaf, callA, mapO, ofOpt, ofOptS, ofConst, e2_P, e2_G, partsA, neNil3, finW_ret, finW_pan, giveW, resultsA, tupA, ground_not, notO_bool, fb_lss, fb_leq, fb_gtr, fb_geq, fb_add, fb_eqlI, fb_neqI, Nat.reduceLT, Nat.reduceAdd, Nat.reduceEqDiff, if_true, if_false, reduceIte, true_and, and_true, Option.getD_some, List.getElem?_toArray, List.getElem?_cons_succ, List.getElem?_cons_zero, Option.bind_some, List.nil_append, List.append_nil, beq_self_eq_true, Bool.false_eq_true, Bool.true_eq_false, decide_true, decide_false, Bool.not_true, Bool.not_false, Bool.false_beq, Bool.true_beq, Option.toList, List.head?_cons, List.head?_nil, WR_nil2, WR_op, WR_re2, execR_no, execR_val2, execR_skip2, execR_enter2, execR_pan2, putRW_none2, putRW_some2, retRW_ret2, retRW_pan2, fixQ_normal2, fixQ_pan2, rsOf, hbi, e2_F, hf10, hf11, neNil2, row1, row2, hne0, h0, h5, h7, h8, h9, h10]
      exact ⟨_, _, rfl, ⟨by simp only [T.get_set, Nat.reduceEqDiff, if_false, h0], by simp only [T.get_set, Nat.reduceEqDiff, if_false, h5], by simp only [T.get_set, Nat.reduceEqDiff, if_false, h7]⟩, hS'⟩
    | false =>
      obtain ⟨S', hr, hS', hn', hold⟩ := ss_round S i hS (by omega) false
      have hb' := (hold k hnk).trans hb
      rw [show wI false i = ((3 * i : Nat) : Int) from hzI] at hr
      simp only [thenW_normal, thenW_exit, thenW_ret, thenW_pan, W_skip, W_region, W_drawn, W_seq, W_cond, W_block, W_loop, W_exit, W_ret, seqQ_normal2, seqQ_exit2, seqQ_ret2, seqQ_pan2, blockW_normal2, blockW_ret2, blockW_pan2, blockW_exit2, WL_nil2, WL_cons, execL_no, execL_val2, execL_skip2, execL_enter2, execL_pan2, putL_none2, putL_some2, retL_ret2, retL_pan2, condW_t2, condW_f2, wantedA, exec1, evalO, initT, T.get_set, T.get_leaf, callA, mapO, ofOpt, ofOptS, ofConst, e2_P, e2_G, partsA, neNil3, finW_ret, finW_pan, giveW, resultsA, tupA, ground_not, notO_bool, fb_lss, fb_leq, fb_gtr, fb_geq, fb_add, fb_eqlI, fb_neqI, Nat.reduceLT, Nat.reduceAdd, Nat.reduceEqDiff, if_true, if_false, reduceIte, true_and, and_true, Option.getD_some, List.getElem?_toArray, List.getElem?_cons_succ, List.getElem?_cons_zero, Option.bind_some, List.nil_append, List.append_nil, beq_self_eq_true, Bool.false_eq_true, Bool.true_eq_false, decide_true, decide_false, Bool.not_true, Bool.not_false, Bool.false_beq, Bool.true_beq, Option.toList, List.head?_cons, List.head?_nil, WR_nil2, WR_op, WR_re2, execR_no, execR_val2, execR_skip2, execR_enter2, execR_pan2, putRW_none2, putRW_some2, retRW_ret2, retRW_pan2, fixQ_normal2, fixQ_pan2, rsOf, hbi, e2_F, hf10, hf11, neNil2, row1, row2, hne0, h0, h5, h7, h8, h9, h10]
      refine WC_known (e2_i11 ..) ?_
      rw [show viaSmall E1 2000 27 2366 [2349, 2341, 2301] [.ptr 2349 0, rowI 1 0 [0]] S = _ from hr]
      simp only [thenW_normal, thenW_exit, thenW_ret, thenW_pan, W_skip, W_region, W_drawn, W_seq, W_cond, W_block, W_loop, W_exit, W_ret, seqQ_normal2, seqQ_exit2, seqQ_ret2, seqQ_pan2, blockW_normal2, blockW_ret2, blockW_pan2, blockW_exit2, WL_nil2, WL_cons, execL_no, execL_val2, execL_skip2, execL_enter2, execL_pan2, putL_none2, putL_some2, retL_ret2, retL_pan2, condW_t2, condW_f2, wantedA, exec1, evalO, initT, T.get_set, T.get_leaf, callA, mapO, ofOpt, ofOptS, ofConst, e2_P, e2_G, partsA, neNil3, finW_ret, finW_pan, giveW, resultsA, tupA, ground_not, notO_bool, fb_lss, fb_leq, fb_gtr, fb_geq, fb_add, fb_eqlI, fb_neqI, Nat.reduceLT, Nat.reduceAdd, Nat.reduceEqDiff, if_true, if_false, reduceIte, true_and, and_true, Option.getD_some, List.getElem?_toArray, List.getElem?_cons_succ, List.getElem?_cons_zero, Option.bind_some, List.nil_append, List.append_nil, beq_self_eq_true, Bool.false_eq_true, Bool.true_eq_false, decide_true, decide_false, Bool.not_true, Bool.not_false, Bool.false_beq, Bool.true_beq, Option.toList, List.head?_cons, List.head?_nil, WR_nil2, WR_op, WR_re2, execR_no, execR_val2, execR_skip2, execR_enter2, execR_pan2, putRW_none2, putRW_some2, retRW_ret2, retRW_pan2, fixQ_normal2, fixQ_pan2, rsOf, hbi, e2_F, hf10, hf11, neNil2, row1, row2, hne0, h0, h5, h7, h8, h9, h10]
      refine WC.mono (same_wb 0 0 k [((2 * (i + 1) : Nat) : Int), ((3 * i : Nat) : Int)] (by simp) S' hb') ?_
      rintro _ rfl
      simp only [thenW_normal, thenW_exit, thenW_ret, thenW_pan, W_skip, W_region, W_drawn, W_seq, W_cond, W_block, W_loop, W_exit, W_ret, seqQ_normal2, seqQ_exit2, seqQ_ret2, seqQ_pan2, blockW_normal2, blockW_ret2, blockW_pan2, blockW_exit2, WL_nil2, WL_cons, execL_no, execL_val2, execL_skip2, execL_enter2, execL_pan2, putL_none2, putL_some2, retL_ret2, retL_pan2, condW_t2, condW_f2, wantedA, exec1, evalO, initT, T.get_set, T.get_leaf, callA, mapO, ofOpt, ofOptS, ofConst, e2_P, e2_G, partsA, neNil3, finW_ret, finW_pan, giveW, resultsA, tupA, ground_not, notO_bool, fb_lss, fb_leq, fb_gtr, fb_geq, fb_add, fb_eqlI, fb_neqI, Nat.reduceLT, Nat.reduceAdd, Nat.reduceEqDiff, if_true, if_false, reduceIte, true_and, and_true, Option.getD_some, List.getElem?_toArray, List.getElem?_cons_succ, List.getElem?_cons_zero, Option.bind_some, List.nil_append, List.append_nil, beq_self_eq_true, Bool.false_eq_true, Bool.true_eq_false, decide_true, decide_false, Bool.not_true, Bool.not_false, Bool.false_beq, Bool.true_beq, Option.toList, List.head?_cons, List.head?_nil, WR_nil2, WR_op, WR_re2, execR_no, execR_val2, execR_skip2, execR_enter2, execR_pan2, putRW_none2, putRW_some2, retRW_ret2, retRW_pan2, fixQ_normal2, fixQ_pan2, rsOf, hbi, e2_F, hf10, hf11, neNil2, row1, row2, hne0, h0, h5, h7, h8, h9, h10]
      exact ⟨_, _, rfl, ⟨by simp only [T.get_set, Nat.reduceEqDiff, if_false, h0], by simp only [T.get_set, Nat.reduceEqDiff, if_false, h5], by simp only [T.get_set, Nat.reduceEqDiff, if_false, h7]⟩, hS'⟩
end Go.Ax
noncomputable section
namespace Go.Ax
open Go.RowKit Go.Proofs
set_option linter.unusedVariables false
set_option linter.unusedSimpArgs false
set_option maxRecDepth 100000
theorem wC5 (na : AV) (f : T AV) (S : St) (h0 : f.get 0 = some na) (h5 : f.get 5 = some (.ptr 2349 0)) (h6 : f.get 6 = some (.v (.bool true))) : W (E2 2366 [2349, 2341, 2301]) 59 ssC5 ⟨f, []⟩ S (fun r => ∃ f', r = .out .normal ⟨f', []⟩ S ∧ f'.get 0 = some na ∧ f'.get 5 = some (.ptr 2349 0)) := by
  simp only [thenW_normal, thenW_exit, thenW_ret, thenW_pan, W_skip, W_region, W_drawn, W_seq, W_cond, W_block, W_loop, W_exit, W_ret, seqQ_normal2, seqQ_exit2, seqQ_ret2, seqQ_pan2, blockW_normal2, blockW_ret2, blockW_pan2, blockW_exit2, WL_nil2, WL_cons, execL_no, execL_val2, execL_skip2, execL_enter2, execL_pan2, putL_none2, putL_some2, retL_ret2, retL_pan2, condW_t2, condW_f2, wantedA, exec1, evalO, initT, T.get_set, T.get_leaf, callA, mapO, ofOpt, ofOptS, ofConst, e2_P, e2_G, partsA, neNil3, finW_ret, finW_pan, giveW, resultsA, tupA, ground_not, notO_bool, fb_lss, fb_leq, fb_gtr, fb_geq, fb_add, fb_eqlI, fb_neqI, Nat.reduceLT, Nat.reduceAdd, Nat.reduceEqDiff, if_true, if_false, reduceIte, true_and, and_true, Option.getD_some, List.getElem?_toArray, List.getElem?_cons_succ, List.getElem?_cons_zero, Option.bind_some, List.nil_append, List.append_nil, beq_self_eq_true, Bool.false_eq_true, Bool.true_eq_false, decide_true, decide_false, Bool.not_true, Bool.not_false, Bool.false_beq, Bool.true_beq, Option.toList, List.head?_cons, List.head?_nil, WR_nil2, WR_op, WR_re2, execR_no, execR_val2, execR_skip2, execR_enter2, execR_pan2, putRW_none2, putRW_some2, retRW_ret2, retRW_pan2, fixQ_normal2, fixQ_pan2, rsOf, ssC5, ssRest, Tryz.f9, h6]
  exact ⟨_, rfl, by simp only [T.get_set, Nat.reduceEqDiff, if_false, h0], by simp only [T.get_set, Nat.reduceEqDiff, if_false, h5]⟩
theorem wR7 (na : AV) (f : T AV) (S : St) (h0 : f.get 0 = some na) (h5 : f.get 5 = some (.ptr 2349 0)) : W (E2 2366 [2349, 2341, 2301]) 59 ssR7 ⟨f, []⟩ S (fun r => ∃ f', r = .out .normal ⟨f', []⟩ S ∧ Fs f' na 0) := by
  simp only [thenW_normal, thenW_exit, thenW_ret, thenW_pan, W_skip, W_region, W_drawn, W_seq, W_cond, W_block, W_loop, W_exit, W_ret, seqQ_normal2, seqQ_exit2, seqQ_ret2, seqQ_pan2, blockW_normal2, blockW_ret2, blockW_pan2, blockW_exit2, WL_nil2, WL_cons, execL_no, execL_val2, execL_skip2, execL_enter2, execL_pan2, putL_none2, putL_some2, retL_ret2, retL_pan2, condW_t2, condW_f2, wantedA, exec1, evalO, initT, T.get_set, T.get_leaf, callA, mapO, ofOpt, ofOptS, ofConst, e2_P, e2_G, partsA, neNil3, finW_ret, finW_pan, giveW, resultsA, tupA, ground_not, notO_bool, fb_lss, fb_leq, fb_gtr, fb_geq, fb_add, fb_eqlI, fb_neqI, Nat.reduceLT, Nat.reduceAdd, Nat.reduceEqDiff, if_true, if_false, reduceIte, true_and, and_true, Option.getD_some, List.getElem?_toArray, List.getElem?_cons_succ, List.getElem?_cons_zero, Option.bind_some, List.nil_append, List.append_nil, beq_self_eq_true, Bool.false_eq_true, Bool.true_eq_false, decide_true, decide_false, Bool.not_true, Bool.not_false, Bool.false_beq, Bool.true_beq, Option.toList, List.head?_cons, List.head?_nil, WR_nil2, WR_op, WR_re2, execR_no, execR_val2, execR_skip2, execR_enter2, execR_pan2, putRW_none2, putRW_some2, retRW_ret2, retRW_pan2, fixQ_normal2, fixQ_pan2, rsOf, ssR7, ssRest, Tryz.f9]
  exact ⟨_, rfl, by simp only [T.get_set, Nat.reduceEqDiff, if_false, h0], by simp only [T.get_set, Nat.reduceEqDiff, if_false, h5], by simp only [T.get_set, Nat.reduceEqDiff, if_true]; rfl⟩
theorem wEnd (f : T AV) (S : St) : W (E2 2366 [2349, 2341, 2301]) 59 ssEnd ⟨f, []⟩ S (fun r => ∃ f' S', r = .out .ret ⟨f', []⟩ S' ∧ f'.get 2 = some (.v (.bool true))) := by
  simp only [thenW_normal, thenW_exit, thenW_ret, thenW_pan, W_skip, W_region, W_drawn, W_seq, W_cond, W_block, W_loop, W_exit, W_ret, seqQ_normal2, seqQ_exit2, seqQ_ret2, seqQ_pan2, blockW_normal2, blockW_ret2, blockW_pan2, blockW_exit2, WL_nil2, WL_cons, execL_no, execL_val2, execL_skip2, execL_enter2, execL_pan2, putL_none2, putL_some2, retL_ret2, retL_pan2, condW_t2, condW_f2, wantedA, exec1, evalO, initT, T.get_set, T.get_leaf, callA, mapO, ofOpt, ofOptS, ofConst, e2_P, e2_G, partsA, neNil3, finW_ret, finW_pan, giveW, resultsA, tupA, ground_not, notO_bool, fb_lss, fb_leq, fb_gtr, fb_geq, fb_add, fb_eqlI, fb_neqI, Nat.reduceLT, Nat.reduceAdd, Nat.reduceEqDiff, if_true, if_false, reduceIte, true_and, and_true, Option.getD_some, List.getElem?_toArray, List.getElem?_cons_succ, List.getElem?_cons_zero, Option.bind_some, List.nil_append, List.append_nil, beq_self_eq_true, Bool.false_eq_true, Bool.true_eq_false, decide_true, decide_false, Bool.not_true, Bool.not_false, Bool.false_beq, Bool.true_beq, Option.toList, List.head?_cons, List.head?_nil, WR_nil2, WR_op, WR_re2, execR_no, execR_val2, execR_skip2, execR_enter2, execR_pan2, putRW_none2, putRW_some2, retRW_ret2, retRW_pan2, fixQ_normal2, fixQ_pan2, rsOf, ssEnd, ssRest, Tryz.f9]
  exact ⟨_, _, rfl, by simp only [T.get_set, Nat.reduceEqDiff, if_true]⟩
def num7 (act : Act) : Nat := match act.tmps.getD 7 undef with
  | .int _ n => n.toNat
  | _ => 0
theorem num7_of {γ : Gh} {w : World} {f : T AV} {act : Act} {na : AV} {i : Nat} (hf : FR γ w f act.tmps) (h : Fs f na i) : num7 act = i := by
  obtain ⟨_, hv⟩ := hf 7 _ h.g7
  unfold num7
  generalize act.tmps.getD 7 undef = z at hv
  cases hv
  simp
theorem ss_code (na : AV) (bs : List Bool) (hna : isRowB na bs) {Q : Exit → Act → World → Prop} {act : Act} {γ : Gh} {base : Nat} {w0 w : World} {f : T AV} {S : St} (h0 : f.get 0 = some na) (h5 : f.get 5 = some (.ptr 2349 0)) (h6 : f.get 6 = some (.v (.bool true))) (hI : SsI S 0)
    (hS : SR base w0 γ S w) (hf : FR γ w f act.tmps) (hn : act.tmps.size = 59) (hd : act.defers = [])
    (hQ : ∀ act' w', act'.tmps.size = 59 → act'.defers = [] → act'.tmps[2]? = some (.bool true) → Below base w0 w' → Q .ret act' w') : ssRest.wp Tryz.prog Q act w := by
  have eok := e2_ok 2366 [2349, 2341, 2301]
  have eintr := e2_intr 2366 [2349, 2341, 2301]
  have emix := e2_mix 2366 [2349, 2341, 2301]
  rw [ssRest_eq]
  refine wp_seq_k fun K1 g1 => ?_
  refine codeWg (E := (E2 2366 [2349, 2341, 2301])) eok eintr emix rfl (wC5 na f S h0 h5 h6) hS hf hn hd ?_
  rintro _ ⟨f1, rfl, q0, q5⟩
  intro γ1 act1 w1 hS1 hx1 ha1
  refine g1 _ _ ?_
  refine wp_seq_k fun K2 g2 => ?_
  refine wp_seq_k fun K3 g3 => ?_
  refine codeWg (E := (E2 2366 [2349, 2341, 2301])) eok eintr emix rfl (wR7 na f1 S q0 q5) hS1 ha1.tmps ha1.size (dfr_nil ha1) ?_
  rintro _ ⟨f2, rfl, hF2⟩
  intro γ2 act2 w2 hS2 hx2 ha2
  refine g3 _ _ ?_
  refine wp_block ?_
  refine wp_loop (fun a w => ∃ (i : Nat) (f : T AV) (S : St) (γ : Gh), i ≤ 40 ∧ SR base w0 γ S w ∧ AR γ w 59 ⟨f, []⟩ a ∧ Fs f na i ∧ SsI S i) (fun a w => 41 - num7 a) ⟨0, f2, S, γ2, by omega, hS2, ha2, hF2, hI⟩ ?_
  rintro a w3 ⟨i, f3, S3, γ3, hi, hS3, ha3, hF3, hI3⟩
  rw [ssC_eq]
  refine wp_seq_k fun K4 g4 => ?_
  refine codeWg (E := (E2 2366 [2349, 2341, 2301])) eok eintr emix rfl (wA na bs hna i f3 S3 hF3) hS3 ha3.tmps ha3.size (dfr_nil ha3) ?_
  rintro _ (⟨hil, hi40, f4, rfl, hF4⟩ | ⟨f4, rfl⟩)
  case inr =>
    intro γ4 act4 w4 hS4 hx4 ha4
    have key : K2 act4 w4 := g2 _ _ (codeW (E := (E2 2366 [2349, 2341, 2301])) (t := 2) (n := 59) eok eintr emix rfl (wEnd f4 S3) hS4 ha4.tmps ha4.size (dfr_nil ha4) hQ)
    show (if (0 : Nat) = 0 then K2 act4 w4 else Q (.exit 0) act4 w4)
    rw [if_pos rfl]; exact key
  intro γ4 act4 w4 hS4 hx4 ha4
  refine g4 _ _ ?_
  refine wp_seq_k fun K5 g5 => ?_
  refine wp_block ?_
  refine wp_seq_k fun K6 g6 => ?_
  refine codeWg (E := (E2 2366 [2349, 2341, 2301])) eok eintr emix rfl (w10 na i (by omega) f4 S3 hF4) hS4 ha4.tmps ha4.size (dfr_nil ha4) ?_
  rintro _ ⟨f5, rfl, hF5, h58⟩
  intro γ5 act5 w5 hS5 hx5 ha5
  refine g6 _ _ ?_
  refine wp_seq_k fun K7 g7 => ?_
  obtain ⟨f6, hrun, hF6, h68, h69, h610⟩ := b11 na i (by omega) f5 S3 hF5 h58
  refine region_B (E := (E2 2366 [2349, 2341, 2301])) eok rfl hrun hS5 ha5.tmps ha5.size (dfr_nil ha5) ?_
  intro act6 w6 γ6 hn6 hd6 hS6 hf6
  refine g7 _ _ ?_
  refine codeWg (E := (E2 2366 [2349, 2341, 2301])) eok eintr emix rfl (wY na bs hna i hil hi40 S3.next hI3.next f6 _ hI3.new (new_get S3 _) hF6 h68 h69 h610) hS6 hf6 hn6 hd6 ?_
  rintro _ ⟨f7, S7, rfl, hF7, hI7⟩
  intro γ7 act7 w7 hS7 hx7 ha7
  refine g5 _ _ ?_
  refine codeWg (E := (E2 2366 [2349, 2341, 2301])) eok eintr emix rfl (w9 na i (by omega) f7 S7 hF7) hS7 ha7.tmps ha7.size (dfr_nil ha7) ?_
  rintro _ ⟨f8, rfl, hF8⟩
  intro γ8 act8 w8 hS8 hx8 ha8
  refine ⟨⟨i + 1, f8, S7, γ8, by omega, hS8, ha8, hF8, hI7⟩, ?_⟩
  rw [num7_of ha8.tmps hF8, num7_of ha3.tmps hF3]
  omega
theorem ssI0 {na : AV} : (outF (ssO2 na)).get 0 = some na ∧ (outF (ssO2 na)).get 5 = some (.ptr 2349 0) ∧ (outF (ssO2 na)).get 6 = some (.v (.bool true)) ∧ SsI (outS (ssO2 na)) 0 := by
  obtain ⟨_, h2, h3, h4⟩ := lookO_spec (ssO2_ok na)
  simp only [List.map_cons, List.map_nil, List.cons.injEq, and_true] at h3 h4
  refine ⟨h3.1, h3.2.1, h3.2.2, SsI.of ⟨by omega, h4.1, h4.2.1, h4.2.2⟩ ?_⟩
  exact ⟨rfl, rfl, rfl, rfl, rfl, rfl, rfl⟩
theorem soloStands_any (v0 : Value) (w : World) (hv0 : BoolIn w v0) : Calls Tryz.prog 9 #[v0] w fun x w' => x = .returned (.bool true) ∧ Below w.heap.size w w' := by
  obtain ⟨bs, na, hn, hna⟩ := hv0
  go_enter Tryz.func9, Tryz.ntmps9
  refine wp_seq_k fun K0 h0 => ?_
  have H0 := Lib.hid h0; clear h0
  go_wp2_with fail
  refine H0.out _ _ ?_
  clear H0 K0
  refine wp_seq_k fun K1 h1 => ?_
  have H1 := Lib.hid h1; clear h1
  go_wp2_with fail
  refine (solo_awake w).mono ?_
  rintro x w1 ⟨rfl, hb1⟩
  go_wp2_with fail
  refine H1.out _ _ ?_
  clear H1 K1
  obtain ⟨k1, _⟩ : ssO1 na = .out .normal ⟨outF (ssO1 na), []⟩ (outS (ssO1 na)) ∧ True := by
    obtain ⟨x, hx⟩ := Option.isSome_iff_exists.1 (ssO1_ok na)
    obtain ⟨n, vs, cs⟩ := x
    exact ⟨(lookO_spec hx).1, trivial⟩
  have k2 := (lookO_spec (ssO2_ok na)).1
  refine wp_seq_k fun K2 h2 => ?_
  refine codeX_norm (c := ssR3) (E := E1) e1_ok e1_intr e1_mix rfl (m := 2000) (n := 59) (f := frL [(0, na)]) (S := St0) (r := ssO1 na) rfl k1 (SR.whole w1) (frL_ok _ ?_) rfl rfl ?_
  · intro p hp
    simp only [List.mem_cons, List.not_mem_nil, or_false] at hp
    subst hp
    exact ⟨_, rfl, hna w1 hb1⟩
  intro act2 w2 γ2 hn2 hd2 hS2 hf2
  refine h2 _ _ ?_
  clear h2 K2
  refine wp_seq_k fun K3 h3 => ?_
  refine codeX_norm (c := ssR4) (E := E1) e1_ok e1_intr e1_mix rfl (m := 2000) (n := 59) (f := outF (ssO1 na)) (S := outS (ssO1 na)) (r := ssO2 na) rfl k2 hS2 hf2 hn2 hd2 ?_
  intro act3 w3 γ3 hn3 hd3 hS3 hf3
  refine h3 _ _ ?_
  clear h3 K3
  obtain ⟨g0, g5, g6, gS⟩ := ssI0 (na := na)
  refine ss_code na bs hn g0 g5 g6 gS hS3 hf3 hn3 hd3 ?_
  intro act' w' hs hd ht hb2
  refine ⟨hd, .bool true, ?_, rfl, hb1.trans (hb2.mono hb1.size)⟩
  have h4 : act'.tmps.getD 2 undef = .bool true := by simp [Array.getD_eq_getD_getElem?, ht]
  simp [results, Tryz.f9, h4, go_sem, ht]
end Go.Ax
