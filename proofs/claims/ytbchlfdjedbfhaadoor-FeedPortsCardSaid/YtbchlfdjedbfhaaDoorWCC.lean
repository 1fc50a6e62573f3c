/-
  girandolelaw20.FeedPorts returns true whatever comes in, in whatever memory; its arguments read as they did. There are no further conditions.
-/
import Derived.Test.YtbchlfdjedbfhaaDoorCards
import Derived.Test.YtbchlfdjedbfhaaDoorTie
import Derived.Test.YtbchlfdjedbfhaaDoorWG16
import Derived.ProofKit
import Derived.OpenShut
import Derived.Deep.DeepHandedRow
import Derived.Stop.LaidErr
set_option linter.unusedVariables false
set_option linter.unusedSimpArgs false
namespace Go.Proofs.YtbchlfdjedbfhaaDoor.feedPorts
open Go.ChangeShapes Go.WideShapes Go.ChangeAt Go.RowKit
set_option linter.unusedVariables false
set_option linter.unusedSimpArgs false
theorem gER : Tryd.prog.globalNamed "strconv.ErrRange" = some 5 := by kernel_rfl
theorem gERType : (Tryd.prog.globals[5]?).map (·.type) = some 75 := by kernel_rfl
theorem cellsE : Tryd.prog.cellsOf 145 = 1 := by kernel_rfl
theorem cells9 : Tryd.prog.cellsOf 9 = 1 := by kernel_rfl
theorem starL : "*" ++ "errors.errorString" = "*errors.errorString" := by decide
theorem rowE (u : TypeId) (h : Tryd.prog.typeName? 3 u = some "*errors.errorString") : u = 143 :=
  typeName_ptr_named (nm := "errors.errorString") (by rw [starL]; kernel_rfl) (by kernel_rfl) (by decide) u (by rw [starL]; exact h)
theorem rng_of {W : World} (h : laidMetH Tryd.prog Rows.feedPortsRow.laid W) : Go.Ax.RngIn W := by
  have h2 : laidMet Tryd.prog [("math/bits.deBruijn32tab", Rows.laid_math_bits_deBruijn32tab), ("math/bits.deBruijn64tab", Rows.laid_math_bits_deBruijn64tab), ("internal/strconv.uint64pow10", Rows.laid_internal_strconv_uint64pow10), ("unicode/utf8.acceptRanges", Rows.laid_unicode_utf8_acceptRanges), ("strconv.ErrRange", Rows.laid_strconv_ErrRange), ("strconv.ErrSyntax", Rows.laid_strconv_ErrSyntax), ("unicode/utf8.first", Rows.laid_unicode_utf8_first)] W := h
  obtain ⟨a0, s0, hv0, hc0, -, -⟩ := laid_sentinel h2.tail.tail.tail.tail gER gERType Tryd.underlying75 rowE Tryd.underlying143 Tryd.underlying145 rfl rfl Tryd.underlying9 cellsE cells9
  have h0 := World.var?_cell gER hv0 0
  obtain ⟨b, o, spot⟩ := a0
  cases spot with
  | none => exact ⟨b, o, by simpa using h0⟩
  | some x =>
    exfalso
    unfold World.cell? at hc0
    split at hc0
    · cases hc0
    · cases hc0
theorem powType : (Tryd.prog.globals[3]?).map (·.type) = some 125 := by kernel_rfl
theorem powCells : Tryd.prog.cellsOf 125 = 20 := by kernel_rfl
theorem cells96 : Tryd.prog.cellsOf 96 = 1 := by kernel_rfl
theorem powData : (Rows.laid_internal_strconv_uint64pow10 : DataW Unit) = Lib.tabData .u64 Lib.pow10Tab := by kernel_rfl
theorem pow_of {W : World} (h : laidMetH Tryd.prog Rows.feedPortsRow.laid W) : Go.Ax.PowIn W := by
  have h2 : laidMet Tryd.prog [("math/bits.deBruijn32tab", Rows.laid_math_bits_deBruijn32tab), ("math/bits.deBruijn64tab", Rows.laid_math_bits_deBruijn64tab), ("internal/strconv.uint64pow10", Lib.tabData .u64 Lib.pow10Tab), ("unicode/utf8.acceptRanges", Rows.laid_unicode_utf8_acceptRanges), ("strconv.ErrRange", Rows.laid_strconv_ErrRange), ("strconv.ErrSyntax", Rows.laid_strconv_ErrSyntax), ("unicode/utf8.first", Rows.laid_unicode_utf8_first)] W := by
    rw [← powData]; exact h
  exact Lib.tabIs_of_head Go.Ax.gPowZ powType Tryd.underlying125 Tryd.underlying96 cells96 powCells h2.tail.tail
theorem ownL : ownKnob Tryd.prog.godebug = none := by kernel_rfl
/-- A block's cells, filled. -/
def fillL (cs : Array Value) : Obj → Obj
  | .cells _ t frozen => .cells cs t frozen
  | o => o
noncomputable def lowL : Nat := (World.holding Tryd.prog default ⟨#[], #[], []⟩).heap.size
/-- A world for the witness: the settled one, the tables and the two errors as their initialisers lay them. -/
noncomputable def laidWorldL (os : Os) : World :=
  let w0 := World.holding Tryd.prog os ⟨#[.cells #[.string ⟨#[118, 97, 108, 117, 101, 32, 111, 117, 116, 32, 111, 102, 32, 114, 97, 110, 103, 101]⟩] 145, .cells #[.string ⟨#[105, 110, 118, 97, 108, 105, 100, 32, 115, 121, 110, 116, 97, 120]⟩] 145], #[], []⟩
  { w0 with heap := ((((((w0.heap.modify 3 (fillL #[.int .u64 1, .int .u64 10, .int .u64 100, .int .u64 1000, .int .u64 10000, .int .u64 100000, .int .u64 1000000, .int .u64 10000000, .int .u64 100000000, .int .u64 1000000000, .int .u64 10000000000, .int .u64 100000000000, .int .u64 1000000000000, .int .u64 10000000000000, .int .u64 100000000000000, .int .u64 1000000000000000, .int .u64 10000000000000000, .int .u64 100000000000000000, .int .u64 1000000000000000000, .int .u64 10000000000000000000])).modify 6 (fillL #[.int .u8 0, .int .u8 1, .int .u8 28, .int .u8 2, .int .u8 29, .int .u8 14, .int .u8 24, .int .u8 3, .int .u8 30, .int .u8 22, .int .u8 20, .int .u8 15, .int .u8 25, .int .u8 17, .int .u8 4, .int .u8 8, .int .u8 31, .int .u8 27, .int .u8 13, .int .u8 23, .int .u8 21, .int .u8 19, .int .u8 16, .int .u8 7, .int .u8 26, .int .u8 12, .int .u8 18, .int .u8 6, .int .u8 11, .int .u8 5, .int .u8 10, .int .u8 9])).modify 7 (fillL #[.int .u8 0, .int .u8 1, .int .u8 56, .int .u8 2, .int .u8 57, .int .u8 49, .int .u8 28, .int .u8 3, .int .u8 61, .int .u8 58, .int .u8 42, .int .u8 50, .int .u8 38, .int .u8 29, .int .u8 17, .int .u8 4, .int .u8 62, .int .u8 47, .int .u8 59, .int .u8 36, .int .u8 45, .int .u8 43, .int .u8 51, .int .u8 22, .int .u8 53, .int .u8 39, .int .u8 33, .int .u8 30, .int .u8 24, .int .u8 18, .int .u8 12, .int .u8 5, .int .u8 63, .int .u8 55, .int .u8 48, .int .u8 27, .int .u8 60, .int .u8 41, .int .u8 37, .int .u8 16, .int .u8 46, .int .u8 35, .int .u8 44, .int .u8 21, .int .u8 52, .int .u8 32, .int .u8 23, .int .u8 11, .int .u8 54, .int .u8 26, .int .u8 40, .int .u8 15, .int .u8 34, .int .u8 20, .int .u8 31, .int .u8 10, .int .u8 25, .int .u8 14, .int .u8 19, .int .u8 9, .int .u8 13, .int .u8 8, .int .u8 7, .int .u8 6])).modify 5 (fillL #[.iface 143 (.pointer (some ⟨lowL, 0, none⟩))])).modify 4 (fillL #[.iface 143 (.pointer (some ⟨lowL + 1, 0, none⟩))])).modify 2 (fillL #[.int .u8 128, .int .u8 191, .int .u8 160, .int .u8 191, .int .u8 128, .int .u8 159, .int .u8 144, .int .u8 191, .int .u8 128, .int .u8 143, .int .u8 0, .int .u8 0, .int .u8 0, .int .u8 0, .int .u8 0, .int .u8 0, .int .u8 0, .int .u8 0, .int .u8 0, .int .u8 0, .int .u8 0, .int .u8 0, .int .u8 0, .int .u8 0, .int .u8 0, .int .u8 0, .int .u8 0, .int .u8 0, .int .u8 0, .int .u8 0, .int .u8 0, .int .u8 0])).modify 1 (fillL (Go.Pinned.utf8FirstZ.map fun z => .int .u8 z).toArray) }
theorem laidOut : laidOutB Tryd.prog = true := by kernel_rfl
set_option maxRecDepth 100000 in
theorem contract (hany : ∀ (x0 : Bool) (x1 : Value) (w : World), Go.Ax.IntsIn w x1 → Go.Ax.RngIn w → Go.Ax.PowIn w → Calls Tryd.prog 5 #[.bool x0, x1] w fun x w' => x = .returned (.bool true) ∧ Below w.heap.size w w') (H : Type) (enc : TypeId × Value → H) (W : World) (base : Nat) (args : Array Value) (ds gs : List (DataW H)) (before : List MemPlace)
    (hval : ∀ (j : Nat) t v, Tryd.f5.params[j]? = some t → args[j]? = some v → Value.okWide Tryd.prog W .any base t v)
    (hW : DataW.Whole enc Tryd.prog Tryd.f5.params.toList Rows.feedPortsSpec.vars false W args.toList ds gs before) (hL : laidMetH Tryd.prog Rows.feedPortsRow.laid W) :
    Calls Tryd.prog 5 args W fun e W' => ∃ v, e = .returned v ∧ Rows.feedPortsSpec.post enc Tryd.prog Tryd.f5 false true false false W args v W' := by
  have hW' := hW
  obtain ⟨p, q, hA0, hV, rfl, hfz, hnd⟩ := hW
  have hA : DataW.TrodAll enc Tryd.prog W 0 (fun _ => true) true Tryd.f5.params.toList args.toList ds p := hA0
  rw [Tryd.params5] at hA hval
  obtain ⟨v0, v1, d0, d1, p0, p1, rfl, rfl, rfl, h0, h1⟩ := trodAll_two hA
  obtain ⟨rfl, rfl⟩ := trodVars_none hV
  obtain ⟨x0, rfl⟩ := okWide_bool Tryd.underlying4 (hval 0 4 v0 rfl rfl)
  have h0k := h0
  obtain ⟨a1, l1, c1, rfl⟩ := okWide_slice Go.Ax.un42 (hval 1 42 v1 rfl rfl)
  have hs1 : Go.Ax.IntsIn W (.slice a1 l1 c1) := by
    obtain ⟨fu, hfu⟩ := h1
    exact Go.Ax.ints_in (hval 1 42 _ rfl rfl) hfu
  have h1k := h1
  clear hA0
  simp only [List.append_nil] at hW'
  have hlt : ∀ x ∈ p0 ++ p1, x.block < W.heap.size := fun x hx => by simpa using hW'.lt x hx
  refine (hany x0 _ W hs1 (rng_of hL) (pow_of hL)).mono fun e W' ⟨he, hg⟩ => ?_
  subst he
  exact ⟨_, rfl, _, _, _, [], _, [], hW', trodAll_mk1 (shut_bool Tryd.underlying4 _), trodAll_mk2 (Below.trod laidOut (by kernel_rfl) (of_decide_eq_true (by kernel_rfl)) h0k hg (fun x hx => hlt x (by simp [hx]))) (Below.trod laidOut (by kernel_rfl) (of_decide_eq_true (by kernel_rfl)) h1k hg (fun x hx => hlt x (by simp [hx]))), rfl, hg.frame _, fun h => by cases h⟩
theorem laid_met (os : Os) : laidMet Tryd.prog Rows.feedPortsRow.laid ((laidWorldL os).forCall (fun _ _ => 0) ⟨#[], #[.bool false, .slice none 0 0], []⟩).memory :=
  laidMet_of_run' 8 (by kernel_rfl) (by kernel_rfl)
theorem reads (os : Os) {H : Type} (enc : TypeId × Value → H) : ∃ places, DataW.whole enc Tryd.prog ((laidWorldL os).forCall (fun _ _ => 0) ⟨#[], #[.bool false, .slice none 0 0], []⟩).memory Tryd.f5.params.toList Rows.feedPortsSpec.vars false #[Value.bool false, Value.slice none 0 0].toList 8 = some ([.lit (.bool false), .nil], [], places) :=
  ⟨[], by kernel_rfl⟩
set_option maxRecDepth 100000 in
theorem lifted (hany : ∀ (x0 : Bool) (x1 : Value) (w : World), Go.Ax.IntsIn w x1 → Go.Ax.RngIn w → Go.Ax.PowIn w → Calls Tryd.prog 5 #[.bool x0, x1] w fun x w' => x = .returned (.bool true) ∧ Below w.heap.size w w') (os : Os) (started : os.Started) (H : Type) (enc : TypeId × Value → H) (F : Stop.Interp) :
    ReturnsInHanded {} Tryd.checked os 5 .any ((OpenSpec.ofChange Rows.feedPortsSpec).preRow enc Tryd.prog Tryd.f5 Rows.feedPortsRow.domain false Rows.feedPortsRow.laid) (((OpenSpec.ofChange Rows.feedPortsSpec).at F).post enc Tryd.prog Tryd.f5 false true false false) := by
  obtain ⟨places, hx⟩ := reads os enc
  refine returnsInHanded_of_row (C := Tryd.checked) (s := OpenSpec.ofChange Rows.feedPortsSpec) ownL started (by kernel_rfl) Tryd.func5
    (witness_row_at (enc := enc) (C := Tryd.checked) false (laidWorldL os) #[.bool false, .slice none 0 0] rfl (by kernel_rfl) (by kernel_rfl) (by kernel_rfl)
      (OpenSpec.preRow_of_cond 8 hx (by kernel_rfl) (fun k hk => by cases hk) (by kernel_rfl) (laid_met os))) ?_
  intro W base args ds gs before hval hW _ _ _ hL _ _
  exact contract hany H enc W base args ds gs before hval hW hL
theorem j1 : (Rows.feedPortsRow.unfollowed == Tryd.prog.unfollowed 5) = true := by kernel_rfl
theorem j2 : mapsRowed Tryd.prog = true := by kernel_rfl
theorem j3 : (Rows.feedPortsRow.inPlace == Tryd.prog.inPlace 5) = true := by kernel_rfl
theorem j4 : (Rows.feedPortsRow.recurses == Tryd.prog.recurses 5) = true := by kernel_rfl
theorem j5 : (Rows.feedPortsRow.named == Tryd.prog.varsNamed 5) = true := by kernel_rfl
theorem closed : joinedFacts Tryd.pinned.checked.prog 5 Tryd.f5 (OpenSpec.ofChange Rows.feedPortsSpec).bare Rows.feedPortsRow = true := by
  have k1 : (Rows.feedPortsRow.unfollowed == Tryd.pinned.checked.prog.unfollowed 5) = true := j1
  have k2 : mapsRowed Tryd.pinned.checked.prog = true := j2
  have k3 : (Rows.feedPortsRow.inPlace == Tryd.pinned.checked.prog.inPlace 5) = true := j3
  have k4 : (Rows.feedPortsRow.recurses == Tryd.pinned.checked.prog.recurses 5) = true := j4
  have k5 : (Rows.feedPortsRow.named == Tryd.pinned.checked.prog.varsNamed 5) = true := j5
  unfold joinedFacts
  rw [k1, k2, k3, k4, k5]
  change _ = true
  kernel_rfl
theorem said (hany : ∀ (x0 : Bool) (x1 : Value) (w : World), Go.Ax.IntsIn w x1 → Go.Ax.RngIn w → Go.Ax.PowIn w → Calls Tryd.prog 5 #[.bool x0, x1] w fun x w' => x = .returned (.bool true) ∧ Below w.heap.size w w') : Rows.FeedPortsSaid :=
  OpenClaim.holds_of_cond 5 Tryd.f5 rfl rfl rfl rfl rfl rfl rfl ⟨rfl, rfl, rfl, rfl, rfl⟩ rfl rfl rfl rfl rfl (by kernel_rfl) Tryd.func5 closed
    (of_decide_eq_true (by kernel_rfl)) (by unfold Func.isWrapper; first | (rw [if_pos (by decide +kernel)]; kernel_rfl) | (rw [if_neg (by decide +kernel)]; exact ⟨rfl, rfl⟩))
    (fun os started H enc _ F => by rw [OpenClaim.pre_eq_preRow]; exact lifted hany os started H enc F)
/-- No parameter wants a stand-in; the program's own looks are off: what the card asks. -/
theorem plain (f : FuncId) (fn : Func) (hf : Tryd.pinned.checked.prog.funcNamed "girandole/girandolelaw20.FeedPorts" = some f) (hfn : Tryd.pinned.checked.prog.funcs[f]? = some fn) :
    true = Tryd.pinned.checked.prog.looks [] ∧ ∀ (j : Nat) t, fn.params[j]? = some t → Tryd.pinned.checked.prog.wantsStandIn t = false := by
  obtain rfl : f = 5 := Option.some.inj ((show Tryd.prog.funcNamed "girandole/girandolelaw20.FeedPorts" = some 5 by kernel_rfl).symm.trans hf) |>.symm
  obtain rfl : fn = Tryd.f5 := (Option.some.inj (Tryd.func5.symm.trans hfn)).symm
  refine ⟨by kernel_rfl, fun j t ht => ?_⟩
  rw [Tryd.params5] at ht
  have hm : t = 4 ∨ t = 42 := by have := Array.mem_of_getElem? ht; simpa using this
  rcases hm with rfl | rfl
  · exact (show Tryd.prog.wantsStandIn 4 = false by kernel_rfl)
  · exact (show Tryd.prog.wantsStandIn 42 = false by kernel_rfl)
/-- The card of FeedPorts. -/
theorem feedPorts_card : Rows.FeedPortsCardSaid :=
  have hany := @Go.Ax.ports_any
  Claim7.holds_tied_plain_at .later [] _ _ _ _ (said hany) (fun _ h => by cases h) (by kernel_rfl) (fun _ h => by cases h) feedPorts_row_tie rfl ⟨rfl, rfl⟩ (by kernel_rfl) rfl plain (by kernel_rfl)
end Go.Proofs.YtbchlfdjedbfhaaDoor.feedPorts
