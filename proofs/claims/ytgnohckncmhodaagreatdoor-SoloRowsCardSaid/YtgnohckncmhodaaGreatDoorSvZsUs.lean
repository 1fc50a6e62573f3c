/-
  SoloRows: true, whatever comes in.
-/
import Derived.Test.YtgnohckncmhodaaGreatDoorSvZsUr0
import Derived.Test.YtgnohckncmhodaaGreatDoorSvZsUr1
import Derived.Test.YtgnohckncmhodaaGreatDoorSvZsUr2
import Derived.Test.YtgnohckncmhodaaGreatDoorSvZsUr3
import Derived.Test.YtgnohckncmhodaaGreatDoorSvZsUr4
import Derived.Test.YtgnohckncmhodaaGreatDoorSvZsUr5
import Derived.Test.YtgnohckncmhodaaGreatDoorSvZsUr6
import Derived.Test.YtgnohckncmhodaaGreatDoorSvZsUr7
import Derived.Test.YtgnohckncmhodaaGreatDoorSvZsUr8
import Derived.Test.YtgnohckncmhodaaGreatDoorSvZsUr9
import Derived.ChangeSlices
set_option linter.unusedVariables false
set_option linter.unusedSimpArgs false
noncomputable section
namespace Go.Ax
open Go.RowKit Go.Proofs Go.WideShapes
set_option linter.unusedVariables false
set_option linter.unusedSimpArgs false
set_option maxRecDepth 100000
theorem u2 : Tryz.prog.underlying 2 = some (.int .i64) := by kernel_rfl
theorem c2 : Tryz.prog.cellsOf 2 = 1 := by kernel_rfl
/-- A row of numbers, as it comes in; any beginning of it. -/
def IntIn (W : World) (v : Value) : Prop := v = .slice none 0 0 ∨ ∃ (b o len cap : Nat) (V : Nat → Int), v = .slice (some ⟨b, o, none⟩) len cap ∧ len ≤ cap ∧ cap ≤ 9223372036854775807 ∧ ∀ w1, Below W.heap.size W w1 → ∀ n, n ≤ len → VR (GhW w1) w1 (rowI 0 0 ((List.range n).map V)) (.slice (some ⟨b, o, none⟩) n cap)
theorem ints_in {H : Type} {enc : TypeId × Value → H} {W : World} {base fuel : Nat} {a0 : Option Addr} {len cap : Nat} {x : DataW H × List MemPlace} (hok : Value.okWide Tryz.prog W .any base 47 (.slice a0 len cap))
    (hf : DataW.trod enc Tryz.prog W 0 (fun _ => true) true fuel 47 (Value.slice a0 len cap).cells.toList = some x) : IntIn W (.slice a0 len cap) := by
  rcases Go.ChangeShapes.open_ints u22 u2 c2 hf with ⟨hcs, hx⟩ | ⟨a, len', cap', zs, hcs, _, hl, hm, hzl, hx, hcell, _⟩
  · simp [Value.cells] at hcs
    obtain ⟨rfl, rfl, rfl⟩ := hcs
    exact .inl rfl
  · simp [Value.cells] at hcs
    obtain ⟨rfl, rfl, rfl⟩ := hcs
    simp only [Value.okWide, u22, Cell.okWide, Cell.ok] at hok
    obtain ⟨b, o, arr, T, fr, rfl, ha, ho⟩ := has_off hok.2.2
    simp only [if_true] at hzl
    obtain ⟨V, hV⟩ : ∃ V : Nat → Int, V = fun i => zs.getD i 0 := ⟨_, rfl⟩
    have hc : ∀ i, i < cap → W.cell? ⟨b, o + i, none⟩ = some (.int .i64 (V i)) := fun i hi => by rw [← Go.WideShapes.add_plain, hV]; exact hcell i (by omega)
    have hsz : o + cap ≤ arr.size := by
      by_cases h0 : cap = 0
      · omega
      · have := cell_bound ha (hc (cap - 1) (by omega)); omega
    refine .inr ⟨b, o, len, cap, V, rfl, hl, (by unfold maxLen at hm; omega), fun w1 hb n hn => ?_⟩
    have := row_in hb ha hsz (len := n) (Nat.le_trans hn hl) (fun i => .int .i64 (V i)) (fun _ => rfl) (fun i hi => hc i (by omega))
    have e : rowI 0 0 ((List.range n).map V) = .sl 0 0 1 ((List.range n).map fun i => .v (.int .i64 (V i))) := by simp [rowI, i64A, Function.comp_def]
    rw [e]; exact this
/-- The four pieces up to the loop, and the loop. -/
theorem sr_tail (na : AV) (l : List Int) (hna : isRowI na l) (hl : l.length ≤ 5) (d : Nat) (hd : d < 10) : (∃ x, lookO [] [] (srO4 na d) = some x) ∧ ∃ (N : Nat) (ids : List Nat), W (E2 N ids) 75 srRest ⟨outF (srO4 na d), []⟩ (outS (srO4 na d)) (fun r => ∃ f' S', r = .out .ret ⟨f', []⟩ S' ∧ f'.get 4 = some (.v (.bool true))) := by
  have up : ∀ {ids ts : List Nat} {r : O} {x}, lookO ids ts r = some x → ∃ y, lookO [] [] r = some y := fun {ids ts r x} h => by
    obtain ⟨n, vs, cs⟩ := x
    rw [(lookO_spec h).1]; exact ⟨_, rfl⟩
  match d, hd with
  | 0, _ => exact ⟨up (sr0_ok na), sr0_rest na l hna hl⟩
  | 1, _ => exact ⟨up (sr1_ok na), sr1_rest na l hna hl⟩
  | 2, _ => exact ⟨up (sr2_ok na), sr2_rest na l hna hl⟩
  | 3, _ => exact ⟨up (sr3_ok na), sr3_rest na l hna hl⟩
  | 4, _ => exact ⟨up (sr4_ok na), sr4_rest na l hna hl⟩
  | 5, _ => exact ⟨up (sr5_ok na), sr5_rest na l hna hl⟩
  | 6, _ => exact ⟨up (sr6_ok na), sr6_rest na l hna hl⟩
  | 7, _ => exact ⟨up (sr7_ok na), sr7_rest na l hna hl⟩
  | 8, _ => exact ⟨up (sr8_ok na), sr8_rest na l hna hl⟩
  | 9, _ => exact ⟨up (sr9_ok na), sr9_rest na l hna hl⟩
  | d + 10, h => exact absurd h (by omega)
theorem sr_1_0 (na : AV) : (lookO [] [] (srO1 na 0)).isSome = true := by kernel_rfl
theorem sr_1_1 (na : AV) : (lookO [] [] (srO1 na 1)).isSome = true := by kernel_rfl
theorem sr_1_2 (na : AV) : (lookO [] [] (srO1 na 2)).isSome = true := by kernel_rfl
theorem sr_1_3 (na : AV) : (lookO [] [] (srO1 na 3)).isSome = true := by kernel_rfl
theorem sr_1_4 (na : AV) : (lookO [] [] (srO1 na 4)).isSome = true := by kernel_rfl
theorem sr_1_5 (na : AV) : (lookO [] [] (srO1 na 5)).isSome = true := by kernel_rfl
theorem sr_1_6 (na : AV) : (lookO [] [] (srO1 na 6)).isSome = true := by kernel_rfl
theorem sr_1_7 (na : AV) : (lookO [] [] (srO1 na 7)).isSome = true := by kernel_rfl
theorem sr_1_8 (na : AV) : (lookO [] [] (srO1 na 8)).isSome = true := by kernel_rfl
theorem sr_1_9 (na : AV) : (lookO [] [] (srO1 na 9)).isSome = true := by kernel_rfl
theorem sr_2_0 (na : AV) : (lookO [] [] (srO2 na 0)).isSome = true := by kernel_rfl
theorem sr_2_1 (na : AV) : (lookO [] [] (srO2 na 1)).isSome = true := by kernel_rfl
theorem sr_2_2 (na : AV) : (lookO [] [] (srO2 na 2)).isSome = true := by kernel_rfl
theorem sr_2_3 (na : AV) : (lookO [] [] (srO2 na 3)).isSome = true := by kernel_rfl
theorem sr_2_4 (na : AV) : (lookO [] [] (srO2 na 4)).isSome = true := by kernel_rfl
theorem sr_2_5 (na : AV) : (lookO [] [] (srO2 na 5)).isSome = true := by kernel_rfl
theorem sr_2_6 (na : AV) : (lookO [] [] (srO2 na 6)).isSome = true := by kernel_rfl
theorem sr_2_7 (na : AV) : (lookO [] [] (srO2 na 7)).isSome = true := by kernel_rfl
theorem sr_2_8 (na : AV) : (lookO [] [] (srO2 na 8)).isSome = true := by kernel_rfl
theorem sr_2_9 (na : AV) : (lookO [] [] (srO2 na 9)).isSome = true := by kernel_rfl
theorem sr_3_0 (na : AV) : (lookO [] [] (srO3 na 0)).isSome = true := by kernel_rfl
theorem sr_3_1 (na : AV) : (lookO [] [] (srO3 na 1)).isSome = true := by kernel_rfl
theorem sr_3_2 (na : AV) : (lookO [] [] (srO3 na 2)).isSome = true := by kernel_rfl
theorem sr_3_3 (na : AV) : (lookO [] [] (srO3 na 3)).isSome = true := by kernel_rfl
theorem sr_3_4 (na : AV) : (lookO [] [] (srO3 na 4)).isSome = true := by kernel_rfl
theorem sr_3_5 (na : AV) : (lookO [] [] (srO3 na 5)).isSome = true := by kernel_rfl
theorem sr_3_6 (na : AV) : (lookO [] [] (srO3 na 6)).isSome = true := by kernel_rfl
theorem sr_3_7 (na : AV) : (lookO [] [] (srO3 na 7)).isSome = true := by kernel_rfl
theorem sr_3_8 (na : AV) : (lookO [] [] (srO3 na 8)).isSome = true := by kernel_rfl
theorem sr_3_9 (na : AV) : (lookO [] [] (srO3 na 9)).isSome = true := by kernel_rfl
theorem sr_1 (na : AV) (d : Nat) (hd : d < 10) : (lookO [] [] (srO1 na d)).isSome = true := by
  match d, hd with
  | 0, _ => exact sr_1_0 na
  | 1, _ => exact sr_1_1 na
  | 2, _ => exact sr_1_2 na
  | 3, _ => exact sr_1_3 na
  | 4, _ => exact sr_1_4 na
  | 5, _ => exact sr_1_5 na
  | 6, _ => exact sr_1_6 na
  | 7, _ => exact sr_1_7 na
  | 8, _ => exact sr_1_8 na
  | 9, _ => exact sr_1_9 na
  | d + 10, h => exact absurd h (by omega)
theorem sr_2 (na : AV) (d : Nat) (hd : d < 10) : (lookO [] [] (srO2 na d)).isSome = true := by
  match d, hd with
  | 0, _ => exact sr_2_0 na
  | 1, _ => exact sr_2_1 na
  | 2, _ => exact sr_2_2 na
  | 3, _ => exact sr_2_3 na
  | 4, _ => exact sr_2_4 na
  | 5, _ => exact sr_2_5 na
  | 6, _ => exact sr_2_6 na
  | 7, _ => exact sr_2_7 na
  | 8, _ => exact sr_2_8 na
  | 9, _ => exact sr_2_9 na
  | d + 10, h => exact absurd h (by omega)
theorem sr_3 (na : AV) (d : Nat) (hd : d < 10) : (lookO [] [] (srO3 na d)).isSome = true := by
  match d, hd with
  | 0, _ => exact sr_3_0 na
  | 1, _ => exact sr_3_1 na
  | 2, _ => exact sr_3_2 na
  | 3, _ => exact sr_3_3 na
  | 4, _ => exact sr_3_4 na
  | 5, _ => exact sr_3_5 na
  | 6, _ => exact sr_3_6 na
  | 7, _ => exact sr_3_7 na
  | 8, _ => exact sr_3_8 na
  | 9, _ => exact sr_3_9 na
  | d + 10, h => exact absurd h (by omega)
theorem norm_of {r : O} (h : (lookO [] [] r).isSome = true) : r = .out .normal ⟨outF r, []⟩ (outS r) := by
  obtain ⟨x, hx⟩ := Option.isSome_iff_exists.1 h
  obtain ⟨n, vs, cs⟩ := x
  exact (lookO_spec hx).1
/-- What is run behind the row's being cut. -/
theorem sr_code (na : AV) (l : List Int) (hna : isRowI na l) (hl : l.length ≤ 5) (d : Nat) (hd : d < 10) (w1 : World) {Q : Exit → Act → World → Prop} {act : Act} {γ : Gh} {base : Nat} {w0 : World}
    (hS : SR base w0 γ St0 w1) (hf : FR γ w1 (frL [(0, na), (1, .v (.int .i64 (d : Int)))]) act.tmps) (hn : act.tmps.size = 75) (hdf : act.defers = [])
    (hQ : ∀ act' w', act'.tmps.size = 75 → act'.defers = [] → act'.tmps[4]? = some (.bool true) → Below base w0 w' → Q .ret act' w') :
    (Code.seq srC1 (.seq srC2 (.seq srC3 (.seq srC4 srRest)))).wp Tryz.prog Q act w1 := by
  obtain ⟨⟨x4, h4⟩, N, ids, hW⟩ := sr_tail na l hna hl d hd
  have k1 := norm_of (sr_1 na d hd)
  have k2 := norm_of (sr_2 na d hd)
  have k3 := norm_of (sr_3 na d hd)
  have k4 := norm_of (r := srO4 na d) (by rw [h4]; rfl)
  refine wp_seq_k fun K1 g1 => ?_
  refine codeX_norm (c := srC1) (E := E1) e1_ok e1_intr e1_mix rfl (m := 2000) (n := 75) (S := St0) (r := srO1 na d) rfl k1 hS hf hn hdf ?_
  intro act2 w2 γ2 hn2 hd2 hS2 hf2
  refine g1 _ _ ?_
  refine wp_seq_k fun K2 g2 => ?_
  refine codeX_norm (c := srC2) (E := E1) e1_ok e1_intr e1_mix rfl (m := 2000) (n := 75) (r := srO2 na d) rfl k2 hS2 hf2 hn2 hd2 ?_
  intro act3 w3 γ3 hn3 hd3 hS3 hf3
  refine g2 _ _ ?_
  refine wp_seq_k fun K3 g3 => ?_
  refine codeX_norm (c := srC3) (E := E1) e1_ok e1_intr e1_mix rfl (m := 2000) (n := 75) (r := srO3 na d) rfl k3 hS3 hf3 hn3 hd3 ?_
  intro act4 w4 γ4 hn4 hd4 hS4 hf4
  refine g3 _ _ ?_
  refine wp_seq_k fun K4 g4 => ?_
  refine codeX_norm (c := srC4) (E := E1) e1_ok e1_intr e1_mix rfl (m := 2000) (n := 75) (r := srO4 na d) rfl k4 hS4 hf4 hn4 hd4 ?_
  intro act5 w5 γ5 hn5 hd5 hS5 hf5
  refine g4 _ _ ?_
  exact codeW (c := srRest) (E := E2 N ids) (t := 4) (n := 75) (e2_ok N ids) (e2_intr N ids) (e2_mix N ids) rfl hW hS5 hf5 hn5 hd5 hQ
end Go.Ax
