/-
  FeedBack is true, whatever comes in.
-/
import Derived.Test.YtbchlfdjedbfhaaDoorWG16
import Derived.Deep.Matrix
set_option linter.unusedVariables false
set_option linter.unusedSimpArgs false
noncomputable section
namespace Go.Ax
open Go.RowKit Go.Proofs
set_option linter.unusedVariables false
set_option linter.unusedSimpArgs false
set_option maxRecDepth 100000
open Go.WideShapes
theorem un27 : Tryd.prog.underlying 27 = some (.slice 42) := by kernel_rfl
theorem ce42 : Tryd.prog.cellsOf 42 = 1 := by kernel_rfl
/-- Rows of rows of numbers, as they come in. -/
def RowsIn (W : World) (v : Value) : Prop := ∃ (raws : List (List Int)) (na : AV), isRows na raws ∧ (∀ r ∈ raws, okInts r) ∧ VR (GhW W) W na v
theorem cell_plain {W : World} {a : Addr} {v : Value} (h : W.cell? a = some v) : ∃ b o arr T fr, a = ⟨b, o, none⟩ ∧ W.heap[b]? = some (Obj.cells arr T fr) := by
  obtain ⟨b, o, spot⟩ := a
  unfold World.cell? at h
  split at h
  · rename_i arr T fr ha
    cases spot with
    | none => exact ⟨b, o, arr, T, fr, rfl, ha⟩
    | some x => simp at h
  · cases h
theorem row_one {W : World} {A : Option Addr} {L C : Nat} {zs : List Int} (hl : L ≤ C) (hz : zs.length = C) (hw : ∀ n ∈ zs, (Lit.int .i64 n).wf = true) (hn : A = none → C = 0)
    (hc : ∀ a', A = some a' → ∀ c, c < C → W.cell? (a'.add c) = some (.int .i64 (zs.getD c 0))) : ∃ na : AV, isInts na ((List.range L).map fun i => zs.getD i 0) ∧ na.cells = [na] ∧ na.one = true ∧ VR (GhW W) W na (.slice A L C) := by
  cases A with
  | none =>
    have h0 := hn rfl
    have hL : L = 0 := by omega
    subst h0; subst hL
    exact ⟨.nils, .inl ⟨rfl, rfl⟩, rfl, rfl, .nils⟩
  | some a =>
    by_cases h0 : C = 0
    · have hL : L = 0 := by omega
      subst h0; subst hL
      exact ⟨.v (.slice (some a) 0 0), .inr (.inr ⟨a, rfl, rfl⟩), rfl, rfl, .v _ rfl⟩
    · have hc := hc a rfl
      obtain ⟨b, o, arr, T, fr, e, ha⟩ := cell_plain (hc 0 (by omega))
      have ea : a = ⟨b, o, none⟩ := by
        obtain ⟨b', o', s'⟩ := a
        simpa [Addr.add] using e
      subst ea
      have hc2 : ∀ i, i < C → W.cell? ⟨b, o + i, none⟩ = some (.int .i64 (zs.getD i 0)) := fun i hi => by rw [← Go.WideShapes.add_plain]; exact hc i hi
      have hsz : o + C ≤ arr.size := by
        have := cell_bound ha (hc2 (C - 1) (by omega)); omega
      refine ⟨.sl 0 0 1 ((List.range L).map fun i => .v (.int .i64 (zs.getD i 0))), .inr (.inl ⟨0, 0, ?_⟩), rfl, rfl, row_in ha hsz hl (fun i => .int .i64 (zs.getD i 0)) (fun _ => rfl) (fun i hi => hc2 i (by omega))⟩
      rw [List.map_map]; rfl
theorem rows20_map (f : Nat → AV) (g : Nat → List Int) : ∀ l : List Nat, (∀ r ∈ l, isInts (f r) (g r)) → rows20 (l.map f) (l.map g)
  | [], _ => trivial
  | r :: rs, h => ⟨h r (List.mem_cons_self ..), rows20_map f g rs fun x hx => h x (List.mem_cons_of_mem _ hx)⟩
theorem flat_one : ∀ l : List AV, (∀ x ∈ l, x.cells = [x]) → flat l = l
  | [], _ => rfl
  | x :: r, h => by
    show x.cells ++ flat r = x :: r
    rw [h x (List.mem_cons_self ..), flat_one r fun y hy => h y (List.mem_cons_of_mem _ hy)]; rfl
theorem rows_in {H : Type} {enc : TypeId × Value → H} {W : World} {base fuel : Nat} {a0 : Option Addr} {len cap : Nat} {x : DataW H × List MemPlace} (hok : Value.okWide Tryd.prog W .any base 27 (.slice a0 len cap))
    (hf : DataW.trod enc Tryd.prog W 0 (fun _ => true) true fuel 27 (Value.slice a0 len cap).cells.toList = some x) : RowsIn W (.slice a0 len cap) := by
  rcases Go.Deep.open_int_rows un27 un42 un2 ce42 ce2 hf with ⟨hcs, hx⟩ | ⟨a, len', cap', A, L, C, Z, hcs, _, hl, hm, hx, hr⟩
  · simp [Value.cells] at hcs
    obtain ⟨rfl, rfl, rfl⟩ := hcs
    exact ⟨[], .nils, .inl ⟨rfl, rfl⟩, (fun r hr => by cases hr), .nils⟩
  · simp [Value.cells] at hcs
    obtain ⟨rfl, rfl, rfl⟩ := hcs
    simp only [Value.okWide, un27, Cell.okWide, Cell.ok] at hok
    obtain ⟨b, o, arr, T, fr, rfl, ha, ho⟩ := has_off hok.2.2
    have hc : ∀ i, i < cap → W.cell? ⟨b, o + i, none⟩ = some (.slice (A i) (L i) (C i)) := fun i hi => by rw [← Go.WideShapes.add_plain]; exact (hr i hi).1
    have hsz : o + cap ≤ arr.size := by
      by_cases h0 : cap = 0
      · omega
      · have := cell_bound ha (hc (cap - 1) (by omega)); omega
    have hlt : b < W.heap.size := (Array.getElem?_eq_some_iff.1 ha).1
    have hex : ∀ r, ∃ na : AV, r < len → isInts na ((List.range (L r)).map fun i => (Z r).getD i 0) ∧ na.cells = [na] ∧ na.one = true ∧ VR (GhW W) W na (.slice (A r) (L r) (C r)) := fun r => by
      by_cases h : r < len
      · obtain ⟨_, h1, _, h3, h4, h5, h6⟩ := hr r (by omega)
        obtain ⟨na, h⟩ := row_one h1 h3 h4 h5 fun a' ha' => (h6 a' ha').2
        exact ⟨na, fun _ => h⟩
      · exact ⟨.nils, fun h' => absurd h' h⟩
    obtain ⟨f, hfs⟩ := Classical.skolem.1 hex
    have hes : ∀ e ∈ (List.range len).map f, e.cells = [e] := fun e he => by
      obtain ⟨r, hr', rfl⟩ := List.mem_map.1 he
      exact (hfs r (List.mem_range.1 hr')).2.1
    have hfl := flat_one _ hes
    refine ⟨(List.range len).map fun r => (List.range (L r)).map fun i => (Z r).getD i 0, .sl 0 0 1 ((List.range len).map f), .inr ⟨0, 0, _, rfl, rows20_map f _ _ fun r hr' => (hfs r (List.mem_range.1 hr')).1⟩, fun r hr' => ?_, ?_⟩
    · obtain ⟨k, hk, rfl⟩ := List.mem_map.1 hr'
      have hk := List.mem_range.1 hk
      intro y hy
      obtain ⟨i, _, rfl⟩ := List.mem_map.1 hy
      have := Go.range_i64 (hr k (by omega)).2.2.2.2.1 i
      rwa [← List.getD_eq_getElem?_getD] at this
    · have hmain : VR (GhW W) W (.sl 0 0 1 ((List.range len).map f)) (.slice (some ⟨b, o, none⟩) ((List.range len).map f).length cap) := by
        refine .sl 0 0 1 _ b o cap (fun k => .slice (A k) (L k) (C k)) (by omega) (fun e he => by rw [hes e he]; rfl) (fun x hx => ?_) (fun k hk => ?_) (fun k hk => ?_) (fun h => absurd h (by omega)) (fun h => absurd h (by omega)) (by simpa using hl) ⟨arr, T, fr, ha, by simpa using hsz⟩
        · rw [hfl] at hx
          obtain ⟨r, hr', rfl⟩ := List.mem_map.1 hx
          exact (hfs r (List.mem_range.1 hr')).2.2.1
        · rw [hfl] at hk
          have hk2 : k < len := by simpa using hk
          exact ⟨⟨hlt, _, hc k (by omega)⟩, hc k (by omega)⟩
        · have hk2 : k < len := by rw [hfl] at hk; simpa using hk
          have e1 : (flat ((List.range len).map f))[k] = f k := by
            simp only [hfl, List.getElem_map, List.getElem_range]
          rw [e1]
          exact (hfs k hk2).2.2.2
      simpa using hmain
theorem back_any (v0 v1 : Value) (w : World) (h0 : BoolsIn w v0) (h1 : RowsIn w v1) (hr : RngIn w) (hp : PowIn w) : Calls Tryd.prog 4 #[v0, v1] w fun x w' => x = .returned (.bool true) ∧ Below w.heap.size w w' := by
  obtain ⟨bs, na, hn, hv⟩ := h0
  obtain ⟨raws, nb, hm, hok, hv1⟩ := h1
  refine callsW_true (vs := [v0, v1]) (back_w feed_kn hn hm hok) (by kernel_rfl) (gz_of hr hp) ⟨rfl, fun k hk h' => ?_⟩
  match k, hk with
  | 0, _ => exact hv
  | 1, _ => exact hv1
end Go.Ax
