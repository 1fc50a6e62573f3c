/-
  Operations, one by one: structs and rows that are built, slices, lengths, appends, nil, interfaces, functions, maps.
-/
import Derived.Test.YtjgknelmjdallaaGreatDoorFcF
noncomputable section
namespace Go.Ax
open Go.RowKit
set_option linter.unusedVariables false
set_option linter.unusedSimpArgs false
variable {P : Program} {base : Nat} {w0 : World}

def splice {α : Type} (cs : List α) (off : Nat) (ys : List α) : List α := cs.take off ++ ys ++ cs.drop (off + ys.length)
theorem splice_length {α : Type} {cs : List α} {off : Nat} {ys : List α} (h : off + ys.length ≤ cs.length) : (splice cs off ys).length = cs.length := by simp [splice]; omega
theorem splice_cons {α : Type} {cs : List α} {off : Nat} {y : α} {ys : List α} (h : off + ys.length + 1 ≤ cs.length) : splice (cs.set off y) (off + 1) ys = splice cs off (y :: ys) := by
  unfold splice
  apply List.ext_getElem?
  intro k
  simp only [List.getElem?_append, List.length_append, List.length_take, List.length_set, List.length_cons, List.getElem?_take, List.getElem?_set, List.getElem?_drop]
  by_cases h1 : k < off
  · have : k < min (off + 1) cs.length := by omega
    have h3 : k < min off cs.length := by omega
    have h4 : off ≠ k := by omega
    simp [h1, this, h3, h4, show k < off + 1 by omega, show k < min (off + 1) cs.length + ys.length by omega, show k < min off cs.length + (ys.length + 1) by omega]
  · by_cases h2 : k = off
    · subst h2
      have : k < min (k + 1) cs.length := by omega
      have h3 : ¬ k < min k cs.length := by omega
      simp [this, h3, show k < cs.length by omega, show k < min (k + 1) cs.length + ys.length by omega, show k < min k cs.length + (ys.length + 1) by omega, show k - min k cs.length = 0 by omega]
    · have a1 : ¬ k < min (off + 1) cs.length := by omega
      have a2 : ¬ k < min off cs.length := by omega
      by_cases h5 : k < off + 1 + ys.length
      · have a3 : k < min (off + 1) cs.length + ys.length := by omega
        have a4 : k < min off cs.length + (ys.length + 1) := by omega
        obtain ⟨j, hj⟩ : ∃ j, k - min off cs.length = j + 1 := ⟨k - min off cs.length - 1, by omega⟩
        have hj2 : k - min (off + 1) cs.length = j := by omega
        simp [a1, a2, a3, a4, hj, hj2]
      · have a3 : ¬ k < min (off + 1) cs.length + ys.length := by omega
        have a4 : ¬ k < min off cs.length + (ys.length + 1) := by omega
        have e1 : off + 1 + ys.length + (k - (min (off + 1) cs.length + ys.length)) = k := by omega
        have e2 : off + (ys.length + 1) + (k - (min off cs.length + (ys.length + 1))) = k := by omega
        have h4 : off ≠ k := by omega
        simp [a3, a4, e1, e2, h4]
theorem splice_nil {α : Type} (cs : List α) (off : Nat) : splice cs off [] = cs := by simp [splice]
/-- What the model's fill does with one part. -/
theorem fold_set : ∀ (xs : List Value) (n off : Nat) (cs : Array Value), off + n + xs.length ≤ cs.size →
    ((xs.zipIdx n).foldl (fun cs (p : Value × Nat) => cs.setIfInBounds (off + p.2) p.1) cs).toList = splice cs.toList (off + n) xs
  | [], n, off, cs, _ => by simp [splice_nil]
  | x :: xs, n, off, cs, h => by
    simp only [List.length_cons] at h
    rw [List.zipIdx_cons, List.foldl_cons, fold_set xs (n + 1) off _ (by simp; omega)]
    rw [Array.toList_setIfInBounds]
    exact splice_cons (by simp; omega)
theorem VRL.splice {γ : Gh} {w : World} {cs : List AV} {xs : List Value} (h : VRL γ w cs xs) {off : Nat} {ys : List AV} {zs : List Value} (hy : VRL γ w ys zs) : VRL γ w (splice cs off ys) (splice xs off zs) := by
  unfold Ax.splice
  rw [hy.1]
  exact ((h.take off).append hy).append (h.drop _)
def fillA (place : Nat → Option (Nat × Nat)) (cs : List AV) : List (Nat × AV) → Option (List AV)
  | [] => some cs
  | (i, a) :: r => match place i with
    | none => none
    | some (off, size) => if a.noTup && a.cells.length == size && decide (off + size ≤ cs.length) then fillA place (splice cs off a.cells) r else none
theorem fillA_sound {γ : Gh} {w : World} (place : Nat → Option (Nat × Nat)) : ∀ (ps : List (Nat × AV)) (vs : List (Nat × Value)) (cs r : List AV) (xs : Array Value),
    VRL γ w cs xs.toList → (∀ c ∈ cs, c.one = true) → vs.map (·.1) = ps.map (·.1) → VRL γ w (ps.map (·.2)) (vs.map (·.2)) → fillA place cs ps = some r → ∃ ys, Instr.fill place xs vs = some ys ∧ VRL γ w r ys.toList ∧ ∀ c ∈ r, c.one = true
  | [], vs, cs, r, xs, hc, h1, hi, hv, h => by
    injection h with h; subst h
    have : vs = [] := by simpa using hi
    subst this
    exact ⟨xs, rfl, hc, h1⟩
  | (i, a) :: ps, vs, cs, r, xs, hc, h1, hi, hv, h => by
    cases vs with
    | nil => simp at hi
    | cons p vs =>
    obtain ⟨j, v⟩ := p
    simp only [List.map_cons, List.cons.injEq] at hi
    obtain ⟨hi1, hi2⟩ := hi
    subst hi1
    obtain ⟨x, xs', he, hx, hxs⟩ := hv.head
    simp only [List.map_cons, List.cons.injEq] at he
    obtain ⟨rfl, rfl⟩ := he
    unfold fillA at h
    split at h
    · cases h
    · rename_i off size hp
      split at h
      · rename_i hcond
        simp only [Bool.and_eq_true, beq_iff_eq, decide_eq_true_eq] at hcond
        obtain ⟨⟨hnt, hs⟩, hfit⟩ := hcond
        have hcells := hx.cells
        have hvs : v.cells.size = size := by have := hcells.1; simp at this; omega
        have hsz : xs.size = cs.length := by have := hc.1; simpa using this
        have hfold := fold_set v.cells.toList 0 off xs (by simp; omega)
        have hz : v.cells.zipIdx.foldl (fun (cs : Array Value) (p : Value × Nat) => cs.setIfInBounds (off + p.2) p.1) xs = (v.cells.toList.zipIdx 0).foldl (fun (cs : Array Value) (p : Value × Nat) => cs.setIfInBounds (off + p.2) p.1) xs := by
          rw [← Array.foldl_toList]
          simp
        obtain ⟨ys, e1, e2, e3⟩ := fillA_sound place ps vs (splice cs off a.cells) r (v.cells.zipIdx.foldl (fun cs (p : Value × Nat) => cs.setIfInBounds (off + p.2) p.1) xs) (by
            rw [hz, hfold]; exact hc.splice hcells) (fun c hm => by
            simp only [splice, List.mem_append] at hm
            rcases hm with (hm | hm) | hm
            · exact h1 c (List.mem_of_mem_take hm)
            · exact hx.ones (noTup_ne hnt) c hm
            · exact h1 c (List.mem_of_mem_drop hm)) hi2 hxs h
        refine ⟨ys, ?_, e2, e3⟩
        have hno : ¬ (v.cells.size ≠ size ∨ off + v.cells.size > xs.size) := by omega
        simp only [Instr.fill, hp]
        rw [if_neg (by simpa using (by omega : v.cells.size = size ∧ off + v.cells.size ≤ xs.size))]
        exact e1
      · cases h
def zeroA (P : Program) (t : TypeId) : Option AV := match P.info? t with
  | some i => match i.zero with
    | some z => ofConst 8 z
    | none => none
  | none => none
theorem zeroA_sound {γ : Gh} {w : World} {t : TypeId} {a : AV} (h : zeroA P t = some a) : ∃ z, (zeroValue t).run P w = .ok z w ∧ VR γ w a z := by
  unfold zeroA at h
  split at h
  · rename_i i hi
    split at h
    · rename_i z hz
      exact ⟨z, by simp [zeroValue, typeInfo, hi, hz], ofConst_sound h⟩
    · cases h
  · cases h
/-- The places of a struct's fields. -/
def placesA (P : Program) : List Field → Option (List (Nat × Nat))
  | [] => some []
  | f :: r => match sizeT P f.type with
    | some n => match placesA P r with
      | some l => some ((f.offset, n) :: l)
      | none => none
    | none => none
theorem places_run {fs : Array Field} {l : List (Nat × Nat)} (h : placesA P fs.toList = some l) (w : World) : (fs.mapM fun (f : Field) => (Functor.map (Prod.mk f.offset) (sizeOf f.type) : Sem (Nat × Nat))).run P w = .ok l.toArray w := by
  rw [Array.mapM_eq_mapM_toList]
  have key : ∀ (fs : List Field) (l : List (Nat × Nat)), placesA P fs = some l → (fs.mapM fun (f : Field) => (Functor.map (Prod.mk f.offset) (sizeOf f.type) : Sem (Nat × Nat))).run P w = .ok l w := by
    intro fs
    induction fs with
    | nil => intro l h; injection h with h; subst h; simp
    | cons f r ih =>
      intro l h
      unfold placesA at h
      split at h
      · rename_i n hn
        split at h
        · rename_i l' hl
          injection h with h; subst h
          have := ih l' hl
          simp [List.mapM_cons, sizeT_run hn, this]
        · cases h
      · cases h
  have := key fs.toList l h
  simp [this]
theorem elemT_array {t e : TypeId} {len : Nat} (h : elemT P t = some (some len, e)) : P.underlying t = some (.array len e) := by
  unfold elemT at h
  split at h
  · injection h with h; injection h with h1 h2; cases h1
  · rename_i n e' hu
    injection h with h; injection h with h1 h2
    injection h1 with h1
    subst h1; subst h2; exact hu
  · cases h
def oBuildA (P : Program) (t : TypeId) (z : AV) (parts : List (Nat × AV)) : Option AV := match elemT P t with
  | some (some _, e) => match sizeT P e with
    | some n => match fillA (fun i => some (i * n, n)) z.cells parts with
      | some cs => if z.noTup then some (.agg cs) else none
      | none => none
    | none => none
  | _ => none
def oBuild (P : Program) (t : TypeId) (parts : List (Nat × AV)) : Option AV :=
  match zeroA P t, fieldsOf P t with
  | some z, some fs => match placesA P fs.toList with
    | some pl => match fillA (fun i => pl[i]?) z.cells parts with
      | some cs => if z.noTup then some (.agg cs) else none
      | none => none
    | none => none
  | some z, none => oBuildA P t z parts
  | _, _ => none
theorem oBuild_sound {γ : Gh} {S : St} {w : World} (h : SR base w0 γ S w) {t : TypeId} {parts : List (Nat × AV)} {vs : Array (Nat × Value)} (hi : vs.toList.map (·.1) = parts.map (·.1)) (hv : VRL γ w (parts.map (·.2)) (vs.toList.map (·.2))) {r : AV} (ho : oBuild P t parts = some r) :
    OkV P base w0 γ S w (Instr.build t vs) r S := by
  unfold oBuild at ho
  split at ho
  · rename_i z fs hz hfs
    split at ho
    · rename_i pl hpl
      split at ho
      · rename_i cs hcs
        split at ho
        · rename_i hnt
          injection ho with ho; subst ho
          obtain ⟨zv, hzr, hzv⟩ := zeroA_sound (γ := γ) (w := w) hz
          obtain ⟨ys, e1, e2, e3⟩ := fillA_sound (γ := γ) (w := w) (fun i => pl[i]?) parts vs.toList z.cells cs zv.cells hzv.cells (hzv.ones (noTup_ne hnt)) hi hv hcs
          have hp := places_run hpl w
          refine OkV.pure h (v := .agg ys) ?_ ?_
          · simp [Instr.build, hzr, fieldsOf_run hfs, hp, e1]
          · rw [← Array.toArray_toList (xs := ys)]
            exact .agg cs ys.toList e2.1 e3 e2.2
        · cases ho
      · cases ho
    · cases ho
  · rename_i z hz hfs
    unfold oBuildA at ho
    split at ho
    · rename_i len e he
      split at ho
      · rename_i n hn
        split at ho
        · rename_i cs hcs
          split at ho
          · rename_i hnt
            injection ho with ho; subst ho
            obtain ⟨zv, hzr, hzv⟩ := zeroA_sound (γ := γ) (w := w) hz
            obtain ⟨ys, e1, e2, e3⟩ := fillA_sound (γ := γ) (w := w) (fun i => some (i * n, n)) parts vs.toList z.cells cs zv.cells hzv.cells (hzv.ones (noTup_ne hnt)) hi hv hcs
            refine OkV.pure h (v := .agg ys) ?_ ?_
            · simp [Instr.build, hzr, run_underlying (elemT_array he), sizeT_run hn, e1]
            · rw [← Array.toArray_toList (xs := ys)]
              exact .agg cs ys.toList e2.1 e3 e2.2
          · cases ho
        · cases ho
      · cases ho
    · cases ho
  · cases ho
end Go.Ax
