/-
  Operations, one by one: rows that are built, slices of slices, lengths, appends, nil, interfaces, functions.
-/
import Derived.Test.YtjgknelmjdallaaGreatDoorFcG
noncomputable section
namespace Go.Ax
open Go.RowKit
set_option linter.unusedVariables false
set_option linter.unusedSimpArgs false
variable {P : Program} {base : Nat} {w0 : World}

theorem fill_seq (sz : Nat) : ∀ (vs : List Value) (k : Nat) (xs : Array Value), (∀ v ∈ vs, v.cells.size = sz) → (k + vs.length) * sz ≤ xs.size →
    ∃ ys, Instr.fill (fun i => some (i * sz, sz)) xs ((vs.zipIdx k).map fun p => (p.2, p.1)) = some ys ∧ ys.toList = splice xs.toList (k * sz) (vs.flatMap fun v => v.cells.toList)
  | [], k, xs, _, _ => ⟨xs, rfl, by simp [splice_nil]⟩
  | v :: vs, k, xs, hs, hl => by
    have hv := hs v (List.mem_cons_self ..)
    have hmul : (k + (vs.length + 1)) * sz = k * sz + sz + vs.length * sz := by rw [show k + (vs.length + 1) = k + 1 + vs.length by omega, Nat.add_mul, Nat.succ_mul]
    simp only [List.length_cons] at hl
    have hfold := fold_set v.cells.toList 0 (k * sz) xs (by simp; omega)
    have hz : v.cells.zipIdx.foldl (fun (cs : Array Value) (p : Value × Nat) => cs.setIfInBounds (k * sz + p.2) p.1) xs = (v.cells.toList.zipIdx 0).foldl (fun (cs : Array Value) (p : Value × Nat) => cs.setIfInBounds (k * sz + p.2) p.1) xs := by
      rw [← Array.foldl_toList]
      simp
    have hlen : (v.cells.zipIdx.foldl (fun (cs : Array Value) (p : Value × Nat) => cs.setIfInBounds (k * sz + p.2) p.1) xs).size = xs.size := by
      have := congrArg List.length (hz ▸ hfold)
      rw [splice_length (by simp; omega)] at this
      simpa using this
    obtain ⟨ys, e1, e2⟩ := fill_seq sz vs (k + 1) (v.cells.zipIdx.foldl (fun (cs : Array Value) (p : Value × Nat) => cs.setIfInBounds (k * sz + p.2) p.1) xs) (fun u hu => hs u (List.mem_cons_of_mem _ hu)) (by rw [hlen, show k + 1 + vs.length = k + (vs.length + 1) by omega]; exact hl)
    refine ⟨ys, ?_, ?_⟩
    · rw [List.zipIdx_cons, List.map_cons]
      simp only [Instr.fill]
      rw [if_neg (by simp; omega)]
      exact e1
    · rw [e2, hz, hfold, List.flatMap_cons]
      have hfl : (vs.flatMap fun v => v.cells.toList).length = vs.length * sz := by
        have : ∀ l : List Value, (∀ v ∈ l, v.cells.size = sz) → (l.flatMap fun v => v.cells.toList).length = l.length * sz := by
          intro l
          induction l with
          | nil => intro _; simp
          | cons x r ih => intro h; simp only [List.flatMap_cons, List.length_append, List.length_cons, Nat.succ_mul]; rw [ih (fun u hu => h u (List.mem_cons_of_mem _ hu))]; have := h x (List.mem_cons_self ..); simp; omega
        exact this vs (fun u hu => hs u (List.mem_cons_of_mem _ hu))
      unfold splice
      have hvl : v.cells.toList.length = sz := by simpa using hv
      rw [Nat.add_zero, Nat.succ_mul]
      apply List.ext_getElem?
      intro j
      simp only [List.getElem?_append, List.length_append, List.length_take, List.getElem?_take, List.getElem?_drop, List.length_drop]
      have hxl : xs.toList.length = xs.size := by simp
      by_cases h1 : j < k * sz
      · simp [h1, hxl, hvl, hfl, show j < min (k * sz) xs.size by omega, show j < k * sz + sz by omega, show j < min (k * sz) xs.size + sz by omega, show j < min (k * sz + sz) (min (k * sz) xs.size + sz + (xs.size - (k * sz + sz))) by omega, show j < min (k * sz + sz) (min (k * sz) xs.size + sz + (xs.size - (k * sz + sz))) + vs.length * sz by omega, show j < min (k * sz) xs.size + (sz + vs.length * sz) by omega]
      · by_cases h2 : j < k * sz + sz
        · simp [h1, h2, hxl, hvl, hfl, show ¬ j < min (k * sz) xs.size by omega, show j < min (k * sz) xs.size + sz by omega, show j < min (k * sz + sz) (min (k * sz) xs.size + sz + (xs.size - (k * sz + sz))) by omega, show j < min (k * sz + sz) (min (k * sz) xs.size + sz + (xs.size - (k * sz + sz))) + vs.length * sz by omega, show j < min (k * sz) xs.size + (sz + vs.length * sz) by omega, show j - min (k * sz) xs.size < sz by omega]
        · by_cases h3 : j < k * sz + sz + vs.length * sz
          · simp [h1, h2, hxl, hvl, hfl, show ¬ j < min (k * sz) xs.size by omega, show ¬ j < min (k * sz + sz) (min (k * sz) xs.size + sz + (xs.size - (k * sz + sz))) by omega, show j < min (k * sz + sz) (min (k * sz) xs.size + sz + (xs.size - (k * sz + sz))) + vs.length * sz by omega, show j < min (k * sz) xs.size + (sz + vs.length * sz) by omega, show ¬ j - min (k * sz) xs.size < sz by omega, show j - min (k * sz + sz) (min (k * sz) xs.size + sz + (xs.size - (k * sz + sz))) = j - min (k * sz) xs.size - sz by omega]
          · have a1 : ¬ j < min (k * sz + sz) (min (k * sz) xs.size + sz + (xs.size - (k * sz + sz))) + vs.length * sz := by omega
            have a2 : ¬ j < min (k * sz) xs.size + (sz + vs.length * sz) := by omega
            have a3 : ∀ q, ¬ k * sz + sz + vs.length * sz + q < min (k * sz) xs.size := by omega
            have a4 : ∀ q, ¬ k * sz + sz + vs.length * sz + q < min (k * sz) xs.size + sz := by omega
            have a5 : k * sz + sz + (k * sz + sz + vs.length * sz + (j - (min (k * sz + sz) (min (k * sz) xs.size + sz + (xs.size - (k * sz + sz))) + vs.length * sz)) - (min (k * sz) xs.size + sz)) = j := by omega
            have a6 : k * sz + (sz + vs.length * sz) + (j - (min (k * sz) xs.size + (sz + vs.length * sz))) = j := by omega
            simp [h1, h2, hxl, hvl, hfl, a1, a2, a3, a4, a5, a6]
theorem cells_flat {γ : Gh} {w : World} : ∀ {as : List AV} {vs : List Value}, VRL γ w as vs → VRL γ w (flat as) (vs.flatMap fun v => v.cells.toList)
  | [], vs, h => by
    have : vs = [] := List.eq_nil_of_length_eq_zero h.1
    subst this; exact VRL.nil γ w
  | a :: as, vs, h => by
    obtain ⟨x, xs, rfl, hx, hr⟩ := h.head
    rw [flat_cons, List.flatMap_cons]
    exact hx.cells.append (cells_flat hr)
theorem ones_flat {γ : Gh} {w : World} {as : List AV} {vs : List Value} (h : VRL γ w as vs) (hn : as.all AV.noTup = true) : ∀ x ∈ flat as, x.one = true := fun x hx => by
  obtain ⟨a, ha, hxa⟩ := List.mem_flatMap.1 hx
  obtain ⟨k, hk, rfl⟩ := List.getElem_of_mem ha
  exact (h.2 k hk (by rw [h.1]; exact hk)).ones (noTup_ne (List.all_eq_true.1 hn _ ha)) x hxa
def oBuildSlice (P : Program) (t : TypeId) (len : Nat) (parts : List (Nat × AV)) : Option AV :=
  match elemT P t with
  | some (none, e) => match sizeT P e, zeroA P e with
    | some (k + 1), some _ => if (parts.map (·.1) == List.range len) && (parts.all fun p => p.2.noTup && p.2.cells.length == k + 1) && decide (len * (k + 1) ≤ 16777216) then some (.sl 1 0 (k + 1) (parts.map (·.2))) else none
    | _, _ => none
  | _ => none
theorem elemT_slice {t e : TypeId} (h : elemT P t = some (none, e)) : P.underlying t = some (.slice e) := by
  unfold elemT at h
  split at h <;> simp_all
theorem zip_range : ∀ (l : List (Nat × Value)) (n : Nat), l.map (·.1) = List.range' n l.length → l = ((l.map (·.2)).zipIdx n).map fun p => (p.2, p.1)
  | [], _, _ => rfl
  | (i, v) :: r, n, h => by
    simp only [List.map_cons, List.length_cons, List.range'_succ, List.cons.injEq] at h
    rw [List.map_cons, List.zipIdx_cons, List.map_cons, ← zip_range r (n + 1) h.2, h.1]
theorem oBuildSlice_sound {γ : Gh} {S : St} {w : World} (h : SR base w0 γ S w) {t : TypeId} {len : Nat} {parts : List (Nat × AV)} {vs : Array (Nat × Value)} (hi : vs.toList.map (·.1) = parts.map (·.1)) (hv : VRL γ w (parts.map (·.2)) (vs.toList.map (·.2))) {r : AV} (ho : oBuildSlice P t len parts = some r) :
    OkV P base w0 γ S w (Instr.buildSlice t len vs) r S := by
  unfold oBuildSlice at ho
  split at ho
  · rename_i e he
    have hu := elemT_slice he
    split at ho
    · rename_i k z hk hz
      split at ho
      · rename_i hc
        simp only [Bool.and_eq_true, beq_iff_eq, decide_eq_true_eq] at hc
        obtain ⟨⟨hr, hall⟩, hsz⟩ := hc
        injection ho with ho; subst ho
        obtain ⟨zv, hzr, hzv⟩ := zeroA_sound (γ := γ) (w := w) hz
        have hpl : parts.length = len := by have := congrArg List.length hr; simpa using this
        have hcell : ∀ p ∈ parts, p.2.noTup = true ∧ p.2.cells.length = k + 1 := fun p hp => by simpa using List.all_eq_true.1 hall p hp
        have hes : ∀ x ∈ parts.map (·.2), x.cells.length = k + 1 := fun x hx => by
          obtain ⟨p, hp, rfl⟩ := List.mem_map.1 hx; exact (hcell p hp).2
        have hnt : (parts.map (·.2)).all AV.noTup = true := List.all_eq_true.2 fun x hx => by
          obtain ⟨p, hp, rfl⟩ := List.mem_map.1 hx; exact (hcell p hp).1
        have hvl : (vs.toList.map (·.2)).length = len := by rw [hv.1]; simpa using hpl
        have hvs : ∀ u ∈ vs.toList.map (·.2), u.cells.size = k + 1 := fun u hu => by
          obtain ⟨j, hj, rfl⟩ := List.getElem_of_mem hu
          have hj2 : j < (parts.map (·.2)).length := by rw [← hv.1]; exact hj
          have h1 := (hv.2 j hj2 hj).cells.1
          rw [hes _ (List.getElem_mem hj2)] at h1
          simpa using h1
        have hzip := zip_range vs.toList 0 (by
          rw [hi, hr, List.range_eq_range']
          congr 1
          simpa using hvl.symm)
        obtain ⟨Z, hZ⟩ : ∃ Z : Array Value, Z = (Array.range (len * (k + 1))).map (fun i => (if len * (k + 1) = 0 then #[] else zv.cells : Array Value)[i % (if len * (k + 1) = 0 then #[] else zv.cells : Array Value).size]!) := ⟨_, rfl⟩
        have hZs : Z.size = len * (k + 1) := by rw [hZ]; simp
        obtain ⟨ys, e1, e2⟩ := fill_seq (k + 1) (vs.toList.map (·.2)) 0 Z hvs (by rw [hvl, hZs]; simp)
        rw [← hzip] at e1
        have hfr := cells_flat hv
        have hfl : (flat (parts.map (·.2))).length = len * (k + 1) := by rw [flat_length hes]; simp [hpl]
        have hys : ys.toList = (vs.toList.map (·.2)).flatMap fun v => v.cells.toList := by
          rw [e2]
          unfold splice
          have : ((vs.toList.map (·.2)).flatMap fun v => v.cells.toList).length = len * (k + 1) := by rw [hfr.1, hfl]
          rw [Nat.zero_mul, List.take_zero, List.nil_append, Nat.zero_add, this, List.drop_eq_nil_of_le (by rw [Array.length_toList, hZs]; exact Nat.le_refl _), List.append_nil]
        have hyl : ys.size = len * (k + 1) := by rw [← Array.length_toList, hys, hfr.1, hfl]
        obtain ⟨k1, k2⟩ := h.allocIm ys e ys.size (Nat.le_refl _)
        have hx := Ext.allocIm (S := S) ys e ys.size k2
        refine ⟨.slice (some ⟨w.heap.size, 0, none⟩) len len, w.alloc (.cells ys e), _, ?_, k1, hx, ?_⟩
        · have h24 : ¬ (16777216 < len * (k + 1)) := by omega
          by_cases h0 : len * (k + 1) = 0
          · rw [if_pos h0] at hZ
            have hl0 : len = 0 := by
              rcases Nat.mul_eq_zero.1 h0 with h | h
              · exact h
              · omega
            subst hl0
            simp at hZ
            subst hZ
            simp [Instr.buildSlice, run_underlying hu, sizeT_run hk, e1, newRow]
          · rw [if_neg h0] at hZ
            have hl0 : ¬ len = 0 := fun e => h0 (by rw [e, Nat.zero_mul])
            have e1' := e1
            rw [hZ] at e1'
            simp [Instr.buildSlice, run_underlying hu, sizeT_run hk, h24, hl0, hzr, e1', newRow]
            exact fun hq => absurd hq h0
        · have hpm : (parts.map (·.2)).length = len := by simpa using hpl
          have := VR.sl (γ := γ.withIm w.heap.size 0 ys.size) (w := w.alloc (.cells ys e)) 1 0 (k + 1) (parts.map (·.2)) w.heap.size 0 len (fun j => ys.getD j undef) (Nat.succ_pos _) hes (ones_flat hv hnt) (fun j hj => by
              refine ⟨.inr ⟨rfl, by omega, by omega⟩, ?_⟩
              rw [Nat.zero_add]
              refine alloc_new_cell w ys e ?_
              have : j < ys.size := by omega
              simp [this]) (fun j hj => by
              have hj2 : j < ((vs.toList.map (·.2)).flatMap fun v => v.cells.toList).length := by rw [hfr.1]; exact hj
              have := (hfr.2 j hj hj2).mono k2
              have hj3 : j < ys.size := by omega
              have e : ys.getD j undef = ((vs.toList.map (·.2)).flatMap fun v => v.cells.toList)[j] := by
                have : ys.toList[j]'(by simpa using hj3) = ((vs.toList.map (·.2)).flatMap fun v => v.cells.toList)[j] := by simp only [hys]
                rw [← this]; simp [hj3]
              rw [e]; exact this) (fun h => by omega) (fun _ => hpm.symm) (by omega) ⟨ys, e, (0, 0), heap_alloc_new w _, by omega⟩
          rw [hpm] at this
          exact this
      · cases ho
    · cases ho
  · cases ho
end Go.Ax
