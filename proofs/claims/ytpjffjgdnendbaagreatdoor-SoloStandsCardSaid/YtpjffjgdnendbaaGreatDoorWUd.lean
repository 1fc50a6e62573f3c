/-
  Code up to somewhere, reckoned; an instant of a unit where its boxes stand; the larger of a number and none.
-/
import Derived.Test.YtpjffjgdnendbaaGreatDoorWUc
import Derived.Test.YtpjffjgdnendbaaGreatDoorWTrF
noncomputable section
namespace Go.Ax
open Go.RowKit Go.Proofs
set_option linter.unusedVariables false
set_option linter.unusedSimpArgs false
set_option maxRecDepth 100000

/-- What a run leaves, where it comes to its end. -/
def outF : O → T AV
  | .out _ f _ => f.tmps
  | .fail => .leaf
def outS : O → St
  | .out _ _ S => S
  | .fail => St0
def lookO (ids ts : List Nat) : O → Option (Nat × List (Option AV) × List (Option Cell))
  | .out e f S => match e with
    | .normal => match f.dfr with
      | [] => some (S.next, ts.map f.tmps.get, ids.map S.mem.get)
      | _ => none
    | _ => none
  | .fail => none
theorem lookO_spec {ids ts : List Nat} {r : O} {n : Nat} {vs : List (Option AV)} {cs : List (Option Cell)} (h : lookO ids ts r = some (n, vs, cs)) : r = .out .normal ⟨outF r, []⟩ (outS r) ∧ (outS r).next = n ∧ ts.map (outF r).get = vs ∧ ids.map (outS r).mem.get = cs := by
  cases r with
  | fail => cases h
  | out e f S =>
    obtain ⟨t, d⟩ := f
    cases e with
    | normal =>
      cases d with
      | nil =>
        simp only [lookO] at h
        injection h with h; injection h with h1 h; injection h with h2 h3
        exact ⟨rfl, h1, h2, h3⟩
      | cons a r => cases h
    | exit i => cases h
    | ret => cases h
    | pan a => cases h
/-- Code that is known to come to its end. -/
theorem codeX_norm {E : Env} (hE : E.Ok) (hI : IntrOk E) (hmix : E.P.follows .mixedOrders = true) (hG : E.G = fun _ => none) {m n : Nat} {c : Code} {f : T AV} {S : St} {r : O} (hr : (comp E n c none).c (callX E m) f [] S = r) (h : r = .out .normal ⟨outF r, []⟩ (outS r)) {Q : Exit → Act → World → Prop} {K : Act → World → Prop} {act : Act} {γ : Gh} {base : Nat} {w0 w : World}
    (hS : SR base w0 γ S w) (hf : FR γ w f act.tmps) (hn : act.tmps.size = n) (hd : act.defers = [])
    (hQ : ∀ act' w' γ', act'.tmps.size = n → act'.defers = [] → SR base w0 γ' (outS r) w' → FR γ' w' (outF r) act'.tmps → K act' w') : c.wp E.P (Exit.then K Q) act w := by
  rcases comp_ok (E := E) (n := n) (callX_F m) c none f [] S with h0 | ⟨j, h0⟩
  · rw [hr, h] at h0; cases h0
  rw [hr] at h0
  have h0 : runC E (drawnNew E) (callX E m) j n c ⟨f, []⟩ S = r := h0
  refine (runC_sound hE (drawnNew_ok hE hmix) (callX_ok hE hI hmix m) j).code base w0 (Exit.then K Q) n c γ S w ⟨f, []⟩ act hS ⟨hf, hn, by rw [hd]; trivial⟩ (by rw [hG]; exact GR.none) ?_
  rw [h0, h]
  intro γ' act' w' h1 h2 h3
  have hd' : act'.defers = [] := by
    have hdd := h3.dfr
    cases hx : act'.defers with
    | nil => rfl
    | cons a r => rw [hx] at hdd; exact hdd.elim
  exact hQ act' w' γ' h3.size hd' h1 h3.tmps
def seeR (ids : List Nat) : R → Option (AV × List (Option Cell))
  | .ret a S => Bool.rec none (some (clean a, ids.map S.mem.get)) (freeV a)
  | _ => none
theorem via_eq {k N : Nat} {ids : List Nat} {args : List AV} {S : St} {a : AV} {cs : List (Option Cell)} (h1 : smallIn N ids args S = true) (h2 : seeR ids (callX E1 2000 k args ⟨N, subM S ids⟩) = some (a, cs)) (h3 : cs.all (okC N) = true) :
    ∃ S', viaSmall E1 2000 k N ids args S = .ret a S' ∧ S'.next = S.next ∧ (∀ j, j ∉ ids → S'.mem.get j = S.mem.get j) ∧ ids.map S'.mem.get = cs := by
  unfold viaSmall
  rw [h1]
  cases hr : callX E1 2000 k args ⟨N, subM S ids⟩ with
  | fail => rw [hr] at h2; cases h2
  | pan x S' => rw [hr] at h2; cases h2
  | ret x S' =>
    rw [hr] at h2
    cases hf : freeV x with
    | false => simp only [seeR, hf] at h2; cases h2
    | true =>
      simp only [seeR, hf] at h2
      injection h2 with h2; injection h2 with h4 h5
      have hall : (freeV x && ids.all (fun i => okC N (S'.mem.get i))) = true := by
        rw [hf, Bool.true_and, List.all_eq_true]
        intro i hi
        rw [← h5, List.all_eq_true] at h3
        exact h3 _ (List.mem_map.2 ⟨i, hi, rfl⟩)
      refine ⟨⟨S.next, backM S S' ids⟩, ?_, rfl, fun j hj => (backM_get S S' ids j).2 hj, ?_⟩
      · show (Bool.rec R.fail (R.ret (clean x) ⟨S.next, backM S S' ids⟩) (freeV x && ids.all (fun i => okC N (S'.mem.get i))) : R) = _
        rw [hall, ← h4]
      · rw [← h5]
        exact List.map_congr_left fun j hj => (backM_get S S' ids j).1 hj
def maxG (x y : Value) : Operand → Value := fun z => match z with
  | .tmp 0 => x
  | _ => y
theorem max_eq (F : Operand → Value) (dst : Option Tmp) (k : Tmp) (ty : TypeId) (pos : String) (af : Array Edge) (gd : Option (Nat × Bool)) : execOp F { dst := dst, op := .call { callee := .builtin .max, args := #[.tmp k, .const (.int .i64 0)], argTypes := #[2, 2] }, type := ty, pos := pos, after := af, guard := gd } = execOp (maxG (F (.tmp k)) (F (.const (.int .i64 0)))) { dst := none, op := .call { callee := .builtin .max, args := #[.tmp 0, .tmp 1], argTypes := #[2, 2] }, type := ty, pos := "", after := #[], guard := none } := by kernel_rfl
theorem max_val (a b : Int) (ty : TypeId) : pureN Tryz.prog 4000 (execOp (maxG (.int .i64 a) (.int .i64 b)) { dst := none, op := .call { callee := .builtin .max, args := #[.tmp 0, .tmp 1], argTypes := #[2, 2] }, type := ty, pos := "", after := #[], guard := none }) = some (.int .i64 (if b > a then b else a)) := by kernel_rfl
def maxX (P : Program) (G : Gl) (f : T AV) (S : St) (o : Oper) : OR := ground P G f S o
def maxO (r : OR) (S : St) (x : Option AV) : OR := match x with
  | some (.v (.int .i64 a)) => .val (.v (.int .i64 (if 0 > a then 0 else a))) S
  | _ => r
theorem maxO_i (r : OR) (S : St) (a : Int) : maxO r S (some (.v (.int .i64 a))) = .val (.v (.int .i64 (if 0 > a then 0 else a))) S := rfl
theorem ground_max (f : T AV) (S : St) (dst : Option Tmp) (k : Tmp) (ty : TypeId) (pos : String) (af : Array Edge) (gd : Option (Nat × Bool)) :
    ground Tryz.prog (fun _ => none) f S { dst := dst, op := .call { callee := .builtin .max, args := #[.tmp k, .const (.int .i64 0)], argTypes := #[2, 2] }, type := ty, pos := pos, after := af, guard := gd } = maxO (maxX Tryz.prog (fun _ => none) f S { dst := dst, op := .call { callee := .builtin .max, args := #[.tmp k, .const (.int .i64 0)], argTypes := #[2, 2] }, type := ty, pos := pos, after := af, guard := gd }) S (f.get k) := by
  unfold maxO
  split
  · rename_i a h1
    have hg1 : groundO (fun _ => none) f (.tmp k) = some (.int .i64 a) := by unfold groundO; simp only [evalO, h1]; rfl
    have hg2 : groundO (fun _ => none) f (.const (.int .i64 0)) = some (.int .i64 0) := rfl
    unfold ground
    have hall : ((Op.call { callee := .builtin .max, args := #[.tmp k, .const (.int .i64 0)], argTypes := #[2, 2] } : Op).operands.toList.all fun x => (groundO (fun _ => none) f x).isSome) = true := by
      show ([Operand.tmp k, Operand.const (.int .i64 0)].all fun x => (groundO (fun _ => none) f x).isSome) = true
      simp only [List.all_cons, List.all_nil, hg1, hg2, Option.isSome_some, Bool.and_self]
    refine (if_pos hall).trans ?_
    rw [max_eq]
    have e1 : (groundO (fun _ => none) f (.tmp k)).getD undef = .int .i64 a := by rw [hg1]; rfl
    have e2 : (groundO (fun _ => none) f (.const (.int .i64 0))).getD undef = .int .i64 0 := by rw [hg2]; rfl
    simp only [e1, e2, max_val]
    rfl
  · rfl
/-- A row of truths that comes in. -/
def boolB (b : Bool) : AV := .v (.bool b)
def isRowB (na : AV) (bs : List Bool) : Prop := (na = .nils ∧ bs = []) ∨ ∃ tok off, na = .sl tok off 1 (bs.map boolB)
theorem u36 : Tryz.prog.underlying 36 = some (.slice 4) := by kernel_rfl
theorem e36 : elemT Tryz.prog 36 = some (none, 4) := by kernel_rfl
theorem s4 : sizeT Tryz.prog 4 = some 1 := by kernel_rfl
theorem a4 : isAggT Tryz.prog 4 = some false := by kernel_rfl
theorem len36 (S : St) {na : AV} {bs : List Bool} (h : isRowB na bs) : oLen Tryz.prog S 36 na = some bs.length := by
  rcases h with ⟨rfl, rfl⟩ | ⟨tok, off, rfl⟩ <;> simp [oLen, u36]
theorem flat_bool : ∀ l : List Bool, flat (l.map boolB) = l.map boolB
  | [] => rfl
  | x :: r => by
    have := flat_bool r
    unfold flat at this ⊢
    rw [List.map_cons, List.flatMap_cons, this]; rfl
theorem idx36 {na : AV} {bs : List Bool} (h : isRowB na bs) (i : Nat) (hi : i < bs.length) : oIndexAddr Tryz.prog 36 na (.v (.int .i64 (i : Int))) = some (.ep [boolB bs[i]]) := by
  rcases h with ⟨rfl, rfl⟩ | ⟨tok, off, rfl⟩
  · exact absurd hi (Nat.not_lt_zero _)
  · have h0 : (0 : Int) ≤ (i : Int) := by omega
    simp [oIndexAddr, h0, e36, s4, hi, boolB, AV.cells]
theorem ld4 (S : St) (x : Bool) : oLoad Tryz.prog S 4 (.ep [boolB x]) = some (.v (.bool x)) := by simp [oLoad, behind, a4, boolB]
theorem row1 (a : Int) : oBuildSlice Tryz.prog 22 1 [(0, .v (.int .i64 a))] = some (rowI 1 0 [a]) := by kernel_rfl
theorem row2 (a b : Int) : oBuildSlice Tryz.prog 22 2 [(0, .v (.int .i64 a)), (1, .v (.int .i64 b))] = some (rowI 1 0 [a, b]) := by kernel_rfl
theorem e2_i11 (N : Nat) (ids : List Nat) : (E2 N ids).I 11 = some (viaSmall E1 2000 11 N ids) := _root_.id rfl
theorem f11_some : ∃ fn, E1.F 11 = some fn := Option.isSome_iff_exists.1 (by kernel_rfl)
theorem f10_some : ∃ fn, E1.F 10 = some fn := Option.isSome_iff_exists.1 (by kernel_rfl)
theorem e2_F (N : Nat) (ids : List Nat) : (E2 N ids).F = E1.F := _root_.id rfl
end Go.Ax
