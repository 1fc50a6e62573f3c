/-
  girandolelaw06.ClocksOn returns true whatever comes in, in whatever memory; its arguments read as they did.
-/
import Derived.Test.YtddjnjhhkffjgaaGreatDoorCards
import Derived.Test.YtddjnjhhkffjgaaGreatDoorTie
import Derived.Test.YtddjnjhhkffjgaaGreatDoorCoCoW
import Derived.ProofKit
import Derived.OpenShut
import Derived.Deep.DeepHandedRow
import Derived.Stop.LaidErr
namespace Go.Proofs.YtddjnjhhkffjgaaGreatDoor.clocksOn
open Go.ChangeShapes Go.WideShapes Go.ChangeAt Go.RowKit
set_option linter.unusedVariables false
set_option linter.unusedSimpArgs false
theorem ownL : ownKnob Tryz.prog.godebug = none := by kernel_rfl
/-- A block's cells, filled. -/
def fillL (cs : Array Value) : Obj → Obj
  | .cells _ t frozen => .cells cs t frozen
  | o => o
noncomputable def lowL : Nat := (World.holding Tryz.prog default ⟨#[], #[], []⟩).heap.size
/-- A world for the witness: the settled one, the tables and the two errors as their initialisers lay them. -/
noncomputable def laidWorldL (os : Os) : World :=
  let w0 := World.holding Tryz.prog os ⟨#[.cells #[.string ⟨#[118, 97, 108, 117, 101, 32, 111, 117, 116, 32, 111, 102, 32, 114, 97, 110, 103, 101]⟩] 190, .cells #[.string ⟨#[105, 110, 118, 97, 108, 105, 100, 32, 115, 121, 110, 116, 97, 120]⟩] 190], #[], []⟩
  { w0 with heap := ((((w0.heap.modify 3 (fillL #[.int .u64 1, .int .u64 10, .int .u64 100, .int .u64 1000, .int .u64 10000, .int .u64 100000, .int .u64 1000000, .int .u64 10000000, .int .u64 100000000, .int .u64 1000000000, .int .u64 10000000000, .int .u64 100000000000, .int .u64 1000000000000, .int .u64 10000000000000, .int .u64 100000000000000, .int .u64 1000000000000000, .int .u64 10000000000000000, .int .u64 100000000000000000, .int .u64 1000000000000000000, .int .u64 10000000000000000000])).modify 4 (fillL #[.int .u8 0, .int .u8 1, .int .u8 28, .int .u8 2, .int .u8 29, .int .u8 14, .int .u8 24, .int .u8 3, .int .u8 30, .int .u8 22, .int .u8 20, .int .u8 15, .int .u8 25, .int .u8 17, .int .u8 4, .int .u8 8, .int .u8 31, .int .u8 27, .int .u8 13, .int .u8 23, .int .u8 21, .int .u8 19, .int .u8 16, .int .u8 7, .int .u8 26, .int .u8 12, .int .u8 18, .int .u8 6, .int .u8 11, .int .u8 5, .int .u8 10, .int .u8 9])).modify 5 (fillL #[.int .u8 0, .int .u8 1, .int .u8 56, .int .u8 2, .int .u8 57, .int .u8 49, .int .u8 28, .int .u8 3, .int .u8 61, .int .u8 58, .int .u8 42, .int .u8 50, .int .u8 38, .int .u8 29, .int .u8 17, .int .u8 4, .int .u8 62, .int .u8 47, .int .u8 59, .int .u8 36, .int .u8 45, .int .u8 43, .int .u8 51, .int .u8 22, .int .u8 53, .int .u8 39, .int .u8 33, .int .u8 30, .int .u8 24, .int .u8 18, .int .u8 12, .int .u8 5, .int .u8 63, .int .u8 55, .int .u8 48, .int .u8 27, .int .u8 60, .int .u8 41, .int .u8 37, .int .u8 16, .int .u8 46, .int .u8 35, .int .u8 44, .int .u8 21, .int .u8 52, .int .u8 32, .int .u8 23, .int .u8 11, .int .u8 54, .int .u8 26, .int .u8 40, .int .u8 15, .int .u8 34, .int .u8 20, .int .u8 31, .int .u8 10, .int .u8 25, .int .u8 14, .int .u8 19, .int .u8 9, .int .u8 13, .int .u8 8, .int .u8 7, .int .u8 6])).modify 2 (fillL #[.iface 188 (.pointer (some ⟨lowL, 0, none⟩))])).modify 1 (fillL #[.iface 188 (.pointer (some ⟨lowL + 1, 0, none⟩))]) }
theorem laidOut : laidOutB Tryz.prog = true := by kernel_rfl
set_option maxRecDepth 100000 in
theorem contract (hany : ∀ (v0 v1 : Value) (x2 : ByteArray) (x3 : Bool) (w : World), Go.Ax.StrIn w v0 → Go.Ax.BoolIn w v1 → Calls Tryz.prog 5 #[v0, v1, .string x2, .bool x3] w fun x w' => x = .returned (.bool true) ∧ Below w.heap.size w w') (H : Type) (enc : TypeId × Value → H) (W : World) (base : Nat) (args : Array Value) (ds gs : List (DataW H)) (before : List MemPlace)
    (hval : ∀ (j : Nat) t v, Tryz.f5.params[j]? = some t → args[j]? = some v → Value.okWide Tryz.prog W .any base t v)
    (hW : DataW.Whole enc Tryz.prog Tryz.f5.params.toList Rows.clocksOnSpec.vars false W args.toList ds gs before) (hL : laidMetH Tryz.prog Rows.clocksOnRow.laid W) :
    Calls Tryz.prog 5 args W fun e W' => ∃ v, e = .returned v ∧ Rows.clocksOnSpec.post enc Tryz.prog Tryz.f5 false true false false W args v W' := by
  have hW' := hW
  obtain ⟨p, q, hA0, hV, rfl, hfz, hnd⟩ := hW
  have hA : DataW.TrodAll enc Tryz.prog W 0 (fun _ => true) true Tryz.f5.params.toList args.toList ds p := hA0
  rw [Tryz.params5] at hA hval
  obtain ⟨v0, v1, v2, v3, d0, d1, d2, d3, p0, p1, p2, p3, rfl, rfl, rfl, h0, h1, h2, h3⟩ := trodAll_four hA
  obtain ⟨rfl, rfl⟩ := trodVars_none hV
  obtain ⟨a0, l0, c0, rfl⟩ := okWide_slice Go.Ax.u34 (hval 0 34 v0 rfl rfl)
  obtain ⟨a1, l1, c1, rfl⟩ := okWide_slice Go.Ax.u44 (hval 1 44 v1 rfl rfl)
  obtain ⟨x2, rfl⟩ := okWide_string Go.Ax.u9 (hval 2 9 v2 rfl rfl)
  obtain ⟨x3, rfl⟩ := okWide_bool Tryz.underlying4 (hval 3 4 v3 rfl rfl)
  have hs0 : Go.Ax.StrIn W (.slice a0 l0 c0) := by
    obtain ⟨fu, hfu⟩ := h0
    exact Go.Ax.strs_in (hval 0 34 _ rfl rfl) hfu
  have hs1 : Go.Ax.BoolIn W (.slice a1 l1 c1) := by
    obtain ⟨fu, hfu⟩ := h1
    exact Go.Ax.bools_in (hval 1 44 _ rfl rfl) hfu
  have h0k := h0
  have h1k := h1
  have h2k := h2
  have h3k := h3
  clear hA0
  simp only [List.append_nil] at hW'
  have hlt : ∀ x, (x ∈ p0 ∨ x ∈ p1 ∨ x ∈ p2 ∨ x ∈ p3) → x.block < W.heap.size := fun x hx => by simpa using hW'.lt x (by simpa using hx)
  refine (hany _ _ x2 x3 W hs0 hs1).mono fun e W' ⟨he, hg⟩ => ?_
  subst he
  exact ⟨_, rfl, _, _, _, [], _, [], hW', trodAll_mk1 (shut_bool Tryz.underlying4 _), trodAll_mk4 (Below.trod laidOut (by kernel_rfl) (of_decide_eq_true (by kernel_rfl)) h0k hg (fun x hx => hlt x (by simp [hx]))) (Below.trod laidOut (by kernel_rfl) (of_decide_eq_true (by kernel_rfl)) h1k hg (fun x hx => hlt x (by simp [hx]))) (Below.trod laidOut (by kernel_rfl) (of_decide_eq_true (by kernel_rfl)) h2k hg (fun x hx => hlt x (by simp [hx]))) (Below.trod laidOut (by kernel_rfl) (of_decide_eq_true (by kernel_rfl)) h3k hg (fun x hx => hlt x (by simp [hx]))), rfl, hg.frame _, fun h => by cases h⟩

theorem laid_met (os : Os) : laidMet Tryz.prog Rows.clocksOnRow.laid ((laidWorldL os).forCall (fun _ _ => 0) ⟨#[], #[.slice none 0 0, .slice none 0 0, .string ⟨#[]⟩, .bool false], []⟩).memory :=
  laidMet_of_run' 8 (by kernel_rfl) (by kernel_rfl)
theorem reads (os : Os) {H : Type} (enc : TypeId × Value → H) : ∃ places, DataW.whole enc Tryz.prog ((laidWorldL os).forCall (fun _ _ => 0) ⟨#[], #[.slice none 0 0, .slice none 0 0, .string ⟨#[]⟩, .bool false], []⟩).memory Tryz.f5.params.toList Rows.clocksOnSpec.vars false #[Value.slice none 0 0, Value.slice none 0 0, Value.string ⟨#[]⟩, Value.bool false].toList 8 = some ([.nil, .nil, .lit (.string []), .lit (.bool false)], [], places) :=
  ⟨[], by kernel_rfl⟩
set_option maxRecDepth 100000 in
theorem lifted (hany : ∀ (v0 v1 : Value) (x2 : ByteArray) (x3 : Bool) (w : World), Go.Ax.StrIn w v0 → Go.Ax.BoolIn w v1 → Calls Tryz.prog 5 #[v0, v1, .string x2, .bool x3] w fun x w' => x = .returned (.bool true) ∧ Below w.heap.size w w') (os : Os) (started : os.Started) (H : Type) (enc : TypeId × Value → H) (F : Stop.Interp) :
    ReturnsInHanded {} Tryz.checked os 5 .any ((OpenSpec.ofChange Rows.clocksOnSpec).preRow enc Tryz.prog Tryz.f5 Rows.clocksOnRow.domain false Rows.clocksOnRow.laid) (((OpenSpec.ofChange Rows.clocksOnSpec).at F).post enc Tryz.prog Tryz.f5 false true false false) := by
  obtain ⟨places, hx⟩ := reads os enc
  refine returnsInHanded_of_row (C := Tryz.checked) (s := OpenSpec.ofChange Rows.clocksOnSpec) ownL started (by kernel_rfl) Tryz.func5
    (witness_row_at (enc := enc) (C := Tryz.checked) false (laidWorldL os) #[.slice none 0 0, .slice none 0 0, .string ⟨#[]⟩, .bool false] rfl (by kernel_rfl) (by kernel_rfl) (by kernel_rfl)
      (OpenSpec.preRow_of_cond 8 hx (by kernel_rfl) (fun k hk => by cases hk) (by kernel_rfl) (laid_met os))) ?_
  intro W base args ds gs before hval hW _ _ _ hL _ _
  exact contract hany H enc W base args ds gs before hval hW hL
theorem j1 : (Rows.clocksOnRow.unfollowed == Tryz.prog.unfollowed 5) = true := by kernel_rfl
theorem j2 : mapsRowed Tryz.prog = true := by kernel_rfl
theorem j3 : (Rows.clocksOnRow.inPlace == Tryz.prog.inPlace 5) = true := by kernel_rfl
theorem j4 : (Rows.clocksOnRow.recurses == Tryz.prog.recurses 5) = true := by kernel_rfl
theorem j5 : (Rows.clocksOnRow.named == Tryz.prog.varsNamed 5) = true := by kernel_rfl
theorem closed : joinedFacts Tryz.pinned.checked.prog 5 Tryz.f5 (OpenSpec.ofChange Rows.clocksOnSpec).bare Rows.clocksOnRow = true := by
  have k1 : (Rows.clocksOnRow.unfollowed == Tryz.pinned.checked.prog.unfollowed 5) = true := j1
  have k2 : mapsRowed Tryz.pinned.checked.prog = true := j2
  have k3 : (Rows.clocksOnRow.inPlace == Tryz.pinned.checked.prog.inPlace 5) = true := j3
  have k4 : (Rows.clocksOnRow.recurses == Tryz.pinned.checked.prog.recurses 5) = true := j4
  have k5 : (Rows.clocksOnRow.named == Tryz.pinned.checked.prog.varsNamed 5) = true := j5
  unfold joinedFacts
  rw [k1, k2, k3, k4, k5]
  change _ = true
  kernel_rfl
theorem said (hany : ∀ (v0 v1 : Value) (x2 : ByteArray) (x3 : Bool) (w : World), Go.Ax.StrIn w v0 → Go.Ax.BoolIn w v1 → Calls Tryz.prog 5 #[v0, v1, .string x2, .bool x3] w fun x w' => x = .returned (.bool true) ∧ Below w.heap.size w w') : Rows.ClocksOnSaid :=
  OpenClaim.holds_of_cond 5 Tryz.f5 rfl rfl rfl rfl rfl rfl rfl ⟨rfl, rfl, rfl, rfl, rfl⟩ rfl rfl rfl rfl rfl (by kernel_rfl) Tryz.func5 closed
    (of_decide_eq_true (by kernel_rfl)) (by unfold Func.isWrapper; first | (rw [if_pos (by decide +kernel)]; kernel_rfl) | (rw [if_neg (by decide +kernel)]; exact ⟨rfl, rfl⟩))
    (fun os started H enc _ F => by rw [OpenClaim.pre_eq_preRow]; exact lifted hany os started H enc F)
/-- No parameter wants a stand-in; the program's own looks are off: what the card asks. -/
theorem plain (f : FuncId) (fn : Func) (hf : Tryz.pinned.checked.prog.funcNamed "girandole/girandolelaw06.ClocksOn" = some f) (hfn : Tryz.pinned.checked.prog.funcs[f]? = some fn) :
    true = Tryz.pinned.checked.prog.looks [] ∧ ∀ (j : Nat) t, fn.params[j]? = some t → Tryz.pinned.checked.prog.wantsStandIn t = false := by
  obtain rfl : f = 5 := Option.some.inj ((show Tryz.prog.funcNamed "girandole/girandolelaw06.ClocksOn" = some 5 by kernel_rfl).symm.trans hf) |>.symm
  obtain rfl : fn = Tryz.f5 := (Option.some.inj (Tryz.func5.symm.trans hfn)).symm
  refine ⟨by kernel_rfl, fun j t ht => ?_⟩
  rw [Tryz.params5] at ht
  have hm : t = 34 ∨ t = 44 ∨ t = 9 ∨ t = 4 := by have := Array.mem_of_getElem? ht; simpa using this
  rcases hm with rfl | rfl | rfl | rfl
  · exact (show Tryz.prog.wantsStandIn 34 = false by kernel_rfl)
  · exact (show Tryz.prog.wantsStandIn 44 = false by kernel_rfl)
  · exact (show Tryz.prog.wantsStandIn 9 = false by kernel_rfl)
  · exact (show Tryz.prog.wantsStandIn 4 = false by kernel_rfl)
/-- The card of ClocksOn. -/
theorem clocksOn_card : Rows.ClocksOnCardSaid :=
  have hany := @Go.Ax.clocksOn_any
  Claim7.holds_tied_plain_at .later [] _ _ _ _ (said hany) (fun _ h => by cases h) (by kernel_rfl) (fun _ h => by cases h) clocksOn_row_tie rfl ⟨rfl, rfl⟩ (by kernel_rfl) rfl plain (by kernel_rfl)
end Go.Proofs.YtddjnjhhkffjgaaGreatDoor.clocksOn
