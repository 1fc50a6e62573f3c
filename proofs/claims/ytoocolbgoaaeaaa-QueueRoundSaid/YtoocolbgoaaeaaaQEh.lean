/-
  Rows that come in; QueueRound, QueuePlays: true, whatever comes in.
-/
import Derived.Test.YtoocolbgoaaeaaaQEg
import Derived.Deep.Strs
import Derived.Deep.Grids
import Derived.ChangeSlices
noncomputable section
namespace Go.Ax
open Go.RowKit Go.Proofs Go.WideShapes
set_option linter.unusedVariables false
set_option linter.unusedSimpArgs false
set_option maxRecDepth 100000
/-- All that lies in memory is known to stay. -/
def GhW (w : World) : Gh := { loc := fun _ => none, im := fun b o => b < w.heap.size ∧ ∃ v, w.cell? ⟨b, o, none⟩ = some v }
theorem SR.whole (w : World) : SR w.heap.size w (GhW w) St0 w :=
  ⟨.refl _ _, Nat.le_refl _, fun _ _ h => h.2, fun _ _ => ⟨rfl, rfl⟩, Nat.le_refl _, fun _ _ _ h => (by cases h), fun _ _ h => (by cases h), fun _ _ _ _ _ _ _ h => (by cases h)⟩
theorem off_le {p : Program} {fits : TypeId → Bool} : ∀ {d : Nat} {e : TypeId} {count off n : Nat}, Go.rowAt p fits d e count off n = true → off ≤ count * p.cellsOf e
  | 0, e, count, off, n, h => by simp [Go.rowAt] at h
  | d + 1, e, count, off, n, h => by
    unfold Go.rowAt at h
    simp only at h
    split at h
    · cases h
    · rename_i hs
      have hp : 0 < p.cellsOf e := Nat.pos_of_ne_zero hs
      have h1 : off / p.cellsOf e ≤ count ∧ (off % p.cellsOf e = 0 ∨ off / p.cellsOf e < count) := by
        simp only [Bool.or_eq_true, Bool.and_eq_true, beq_iff_eq, decide_eq_true_eq] at h
        rcases h with ⟨⟨h1, h2⟩, _⟩ | ⟨h1, _⟩
        · exact ⟨by omega, .inl h1⟩
        · exact ⟨by omega, .inr h1⟩
      have hdm := Nat.div_add_mod off (p.cellsOf e)
      have hml := Nat.mod_lt off hp
      rcases h1 with ⟨h1, h2 | h2⟩
      · rw [h2, Nat.add_zero] at hdm
        rw [← hdm, Nat.mul_comm]
        exact Nat.mul_le_mul_right _ h1
      · have h3 : (off / p.cellsOf e + 1) * p.cellsOf e ≤ count * p.cellsOf e := Nat.mul_le_mul_right _ h2
        rw [Nat.add_mul, Nat.one_mul, Nat.mul_comm (off / p.cellsOf e)] at h3
        omega
theorem lies_le {p : Program} : ∀ {d : Nat} {e : TypeId} {count off : Nat} {u : TypeId} {n : Nat}, liesAt p d e count off u n = true → off ≤ count * p.cellsOf e
  | 0, e, count, off, u, n, h => by simp [liesAt] at h
  | d + 1, e, count, off, u, n, h => by
    unfold liesAt at h
    rw [Bool.or_eq_true] at h
    rcases h with h | h
    · exact off_le h
    · split at h
      · exact lies_le h
      · cases h
theorem has_off {P : Program} {W : World} {base : Nat} {a : Addr} {e : TypeId} {n : Nat} (h : W.has P .any base a e n) : ∃ b o arr T fr, a = ⟨b, o, none⟩ ∧ W.heap[b]? = some (Obj.cells arr T fr) ∧ o ≤ arr.size := by
  obtain ⟨_, hs, row, cells, h1, h2⟩ := h
  obtain ⟨b, o, spot⟩ := a
  simp only at hs
  subst hs
  simp only [World.shape?] at h1
  split at h1
  · rename_i c el fr he
    simp only [Option.some.injEq, Prod.mk.injEq] at h1
    obtain ⟨rfl, rfl⟩ := h1
    refine ⟨b, o, c, _, fr, rfl, he, ?_⟩
    have := lies_le h2
    exact Nat.le_trans this (Nat.div_mul_le_self _ _)
  · cases h1
theorem cell_bound {W : World} {b o : Nat} {arr : Array Value} {T : TypeId} {fr : Nat × Nat} {v : Value} (ha : W.heap[b]? = some (Obj.cells arr T fr)) (h : W.cell? ⟨b, o, none⟩ = some v) : o < arr.size := by
  unfold World.cell? at h
  rw [ha] at h
  simp only [Option.isSome_none, Bool.false_eq_true, if_false] at h
  exact (Array.getElem?_eq_some_iff.1 h).1
theorem row_in {W w1 : World} (hb : Below W.heap.size W w1) {b o len cap : Nat} {arr : Array Value} {T : TypeId} {fr : Nat × Nat} (ha : W.heap[b]? = some (Obj.cells arr T fr)) (hz : o + cap ≤ arr.size) (hl : len ≤ cap) (V : Nat → Value) (hsc : ∀ i, scalar (V i) = true)
    (hcell : ∀ i, i < len → W.cell? ⟨b, o + i, none⟩ = some (V i)) : VR (GhW w1) w1 (.sl 0 0 1 ((List.range len).map fun i => .v (V i))) (.slice (some ⟨b, o, none⟩) len cap) := by
  have hlt : b < W.heap.size := (Array.getElem?_eq_some_iff.1 ha).1
  have hk : w1.heap[b]? = W.heap[b]? := hb.block b hlt
  have hlt1 : b < w1.heap.size := Nat.lt_of_lt_of_le hlt hb.size
  have hc1 : ∀ i, i < len → w1.cell? ⟨b, o + i, none⟩ = some (V i) := fun i hi => by
    rw [← hcell i hi]
    unfold World.cell?
    simp only [hk]
  have hfl : ∀ l : List Nat, flat (l.map fun i => AV.v (V i)) = l.map fun i => AV.v (V i) := fun l => by
    induction l with
    | nil => rfl
    | cons x r ih =>
      show AV.cells (AV.v (V x)) ++ flat (r.map fun i => AV.v (V i)) = _
      rw [ih]; rfl
  have hmain : VR (GhW w1) w1 (.sl 0 0 1 ((List.range len).map fun i => .v (V i))) (.slice (some ⟨b, o, none⟩) ((List.range len).map fun i => AV.v (V i)).length cap) := by
    refine .sl 0 0 1 _ b o cap V (by omega) (fun e he => ?_) (fun x hx => ?_) (fun k hk => ?_) (fun k hk => ?_) (fun h => absurd h (by omega)) (fun h => absurd h (by omega)) (by simpa using hl) ⟨arr, T, fr, by rw [hk]; exact ha, by simpa using hz⟩
    · obtain ⟨s, _, rfl⟩ := List.mem_map.1 he; rfl
    · rw [hfl] at hx; obtain ⟨s, _, rfl⟩ := List.mem_map.1 hx; rfl
    · rw [hfl] at hk
      have hk2 : k < len := by simpa using hk
      exact ⟨⟨hlt1, _, hc1 k hk2⟩, hc1 k hk2⟩
    · have hk2 : k < len := by rw [hfl] at hk; simpa using hk
      have e1 : (flat ((List.range len).map fun i => AV.v (V i)))[k] = AV.v (V k) := by
        simp only [hfl, List.getElem_map, List.getElem_range]
      rw [e1]
      exact .v _ (hsc k)
  simpa using hmain


theorem u4 : Try.prog.underlying 4 = some .bool := by kernel_rfl
theorem c4 : Try.prog.cellsOf 4 = 1 := by kernel_rfl
theorem c2 : Try.prog.cellsOf 2 = 1 := by kernel_rfl
def BoolIn (W : World) (v : Value) : Prop := ∃ (ss : List Bool) (na : AV), rowBl na ss ∧ ∀ w1, Below W.heap.size W w1 → VR (GhW w1) w1 na v
theorem bools_in {H : Type} {enc : TypeId × Value → H} {W : World} {base fuel : Nat} {a0 : Option Addr} {len cap : Nat} {x : DataW H × List MemPlace} (hok : Value.okWide Try.prog W .any base 23 (.slice a0 len cap))
    (hf : DataW.trod enc Try.prog W 0 (fun _ => true) true fuel 23 (Value.slice a0 len cap).cells.toList = some x) : BoolIn W (.slice a0 len cap) := by
  rcases Go.Deep.open_bools u23 u4 c4 hf with ⟨hcs, hx⟩ | ⟨a, len', cap', V, hcs, _, hl, hm, hx, hcell⟩
  · simp [Value.cells] at hcs
    obtain ⟨rfl, rfl, rfl⟩ := hcs
    exact ⟨[], .nils, .inl ⟨rfl, rfl⟩, fun _ _ => .nils⟩
  · simp [Value.cells] at hcs
    obtain ⟨rfl, rfl, rfl⟩ := hcs
    simp only [Value.okWide, u23, Cell.okWide, Cell.ok] at hok
    obtain ⟨b, o, arr, T, fr, rfl, ha, ho⟩ := has_off hok.2.2
    have hc : ∀ i, i < cap → W.cell? ⟨b, o + i, none⟩ = some (.bool (V i)) := fun i hi => by rw [← Go.WideShapes.add_plain]; exact hcell i hi
    have hsz : o + cap ≤ arr.size := by
      by_cases h0 : cap = 0
      · omega
      · have := cell_bound ha (hc (cap - 1) (by omega)); omega
    refine ⟨(List.range len).map V, .sl 0 0 1 ((List.range len).map fun i => .v (.bool (V i))), .inr ⟨0, 0, by simp [boolB, Function.comp_def]⟩, fun w1 hb => row_in hb ha hsz hl (fun i => .bool (V i)) (fun _ => rfl) (fun i hi => hc i (by omega))⟩

def IntIn (W : World) (v : Value) : Prop := ∃ (L : List Int) (na : AV), rowIs na L ∧ ∀ w1, Below W.heap.size W w1 → VR (GhW w1) w1 na v
theorem ints_in {H : Type} {enc : TypeId × Value → H} {W : World} {base fuel : Nat} {a0 : Option Addr} {len cap : Nat} {x : DataW H × List MemPlace} (hok : Value.okWide Try.prog W .any base 22 (.slice a0 len cap))
    (hf : DataW.trod enc Try.prog W 0 (fun _ => true) true fuel 22 (Value.slice a0 len cap).cells.toList = some x) : IntIn W (.slice a0 len cap) := by
  rcases Go.ChangeShapes.open_ints u22 u2 c2 hf with ⟨hcs, hx⟩ | ⟨a, len', cap', zs, hcs, _, hl, hm, hzl, hx, hcell, _⟩
  · simp [Value.cells] at hcs
    obtain ⟨rfl, rfl, rfl⟩ := hcs
    exact ⟨[], .nils, .inl ⟨rfl, rfl⟩, fun _ _ => .nils⟩
  · simp [Value.cells] at hcs
    obtain ⟨rfl, rfl, rfl⟩ := hcs
    simp only [Value.okWide, u22, Cell.okWide, Cell.ok] at hok
    obtain ⟨b, o, arr, T, fr, rfl, ha, ho⟩ := has_off hok.2.2
    simp only [if_true] at hzl
    obtain ⟨V, hV⟩ : ∃ V : Nat → Int, V = fun i => zs.getD i 0 := ⟨_, rfl⟩
    have hc : ∀ i, i < cap → W.cell? ⟨b, o + i, none⟩ = some (.int .i64 (V i)) := fun i hi => by rw [← Go.WideShapes.add_plain, hV]; exact hcell i (by omega)
    have hsz : o + cap ≤ arr.size := by
      by_cases h0 : cap = 0
      · omega
      · have := cell_bound ha (hc (cap - 1) (by omega)); omega
    refine ⟨(List.range len).map V, .sl 0 0 1 ((List.range len).map fun i => .v (.int .i64 (V i))), .inr ⟨0, 0, by simp [i64A, Function.comp_def]⟩, fun w1 hb => row_in hb ha hsz (len := len) hl (fun i => .int .i64 (V i)) (fun _ => rfl) (fun i hi => hc i (by omega))⟩
theorem vrl2 {γ : Gh} {w : World} {a b : AV} {x y : Value} (h1 : VR γ w a x) (h2 : VR γ w b y) : VRL γ w [a, b] [x, y] := VRL.cons h1 (VRL.cons h2 (VRL.nil _ _))
theorem vrl4 {γ : Gh} {w : World} {a b c d : AV} {x y z u : Value} (h1 : VR γ w a x) (h2 : VR γ w b y) (h3 : VR γ w c z) (h4 : VR γ w d u) : VRL γ w [a, b, c, d] [x, y, z, u] := VRL.cons h1 (VRL.cons h2 (VRL.cons h3 (VRL.cons h4 (VRL.nil _ _))))
theorem true_of {k : FuncId} {args : List AV} (hk : (E1.F k).isSome = true) (hW : WC E1 k args St0 (fun x => ∃ S', x = .ret (.v (.bool true)) S')) {w : World} {vs : List Value} (hv : VRL (GhW w) w args vs) :
    Calls Try.prog k vs.toArray w fun x w' => x = .returned (.bool true) ∧ Below w.heap.size w w' := by
  obtain ⟨r2, ⟨m0, hm⟩, S', rfl⟩ := hW
  have hc := hm m0 (Nat.le_refl _)
  have := call_sound e1_ok e1_intr (drawnNew_ok e1_ok e1_mix) m0 w.heap.size w k args St0 (by show ckN E1 m0 k _ St0 ≠ _; rw [hc]; exact fun e => by cases e) (GhW w) w vs (SR.whole w) GR.none hv hk
  rw [show callN E1 (drawnNew E1) m0 k args St0 = _ from hc] at this
  refine this.mono fun x w' hx => ?_
  obtain ⟨γ', y, k1, k2, k3, rfl⟩ := hx
  cases k3
  exact ⟨rfl, k1.below⟩
theorem queueRound_any (x0 : Int) (v1 : Value) (w : World) (h1 : IntIn w v1) : Calls Try.prog 4 #[.int .i64 x0, v1] w fun x w' => x = .returned (.bool true) ∧ Below w.heap.size w w' := by
  obtain ⟨L, na, hr, hv⟩ := h1
  exact true_of (by kernel_rfl) (queueRound_w x0 hr St0 (Nat.le_refl _)) (vrl2 (.v _ rfl) (hv w (.refl _ _)))
theorem queuePlays_any (x0 : Int) (v1 v2 : Value) (x3 : Int) (w : World) (h1 : IntIn w v1) (h2 : BoolIn w v2) : Calls Try.prog 3 #[.int .i64 x0, v1, v2, .int .i64 x3] w fun x w' => x = .returned (.bool true) ∧ Below w.heap.size w w' := by
  obtain ⟨L, na, hr, hv⟩ := h1
  obtain ⟨B, nb, hb, hu⟩ := h2
  exact true_of (by kernel_rfl) (queuePlays_w x0 x3 hr hb St0 (Nat.le_refl _)) (vrl4 (.v _ rfl) (hv w (.refl _ _)) (hu w (.refl _ _)) (.v _ rfl))
end Go.Ax
