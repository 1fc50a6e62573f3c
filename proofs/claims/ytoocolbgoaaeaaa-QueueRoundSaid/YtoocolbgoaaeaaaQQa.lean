/-
  The queue's program: its surroundings, and what its operations come to.
-/
import Derived.Test.YtoocolbgoaaeaaaQXf
import Derived.Test.YtoocolbgoaaeaaaQHa
import Derived.Test.YtoocolbgoaaeaaaProg
import Derived.KernelRfl
noncomputable section
namespace Go.Ax
open Go.RowKit Go.Proofs
set_option linter.unusedVariables false
set_option linter.unusedSimpArgs false
set_option maxRecDepth 100000

noncomputable def E1 : Env := { P := Try.prog, G := fun _ => none, F := fun k => match Try.prog.funcs[k]? with | some fn => if fn.body.isSome then some fn else none | none => none }
theorem e1_names : (Try.prog.funcs.toList.all fun fn => !(fn.name == "runtime.NumGoroutine")) = true := by kernel_rfl
theorem e1_ok : E1.Ok := ⟨fun k fn h => by
  simp only [E1] at h
  split at h
  · rename_i fn' hf
    split at h
    · rename_i hb
      injection h with h; subst h
      have hm : fn' ∈ Try.prog.funcs.toList := by
        have := Array.mem_of_getElem? hf
        simpa using this
      have := List.all_eq_true.1 e1_names fn' hm
      exact ⟨hf, by simpa using this, Option.isSome_iff_exists.1 hb⟩
    · cases h
  · cases h⟩
theorem e1_intr : IntrOk E1 := fun k g hk => by cases hk
theorem e1_mix : E1.P.follows .mixedOrders = true := by kernel_rfl
theorem e1_P : E1.P = Try.prog := rfl
theorem e1_G : E1.G = fun _ => none := rfl
theorem neNil3 (a b : AV) : neNil Try.prog 3 a b = false := by unfold neNil; rw [Try.underlying3]
theorem u2 : Try.prog.underlying 2 = some (.int .i64) := by kernel_rfl
theorem neNil2 (a b : AV) : neNil Try.prog 2 a b = false := by unfold neNil; rw [u2]
theorem fb_lss (k : IntKind) (x y : Int) : fastBin .lss (.v (.int k x)) (.v (.int k y)) = some (.v (.bool (decide (x < y)))) := by simp [fastBin]
theorem fb_leq (k : IntKind) (x y : Int) : fastBin .leq (.v (.int k x)) (.v (.int k y)) = some (.v (.bool (decide (x ≤ y)))) := by simp [fastBin]
theorem fb_gtr (k : IntKind) (x y : Int) : fastBin .gtr (.v (.int k x)) (.v (.int k y)) = some (.v (.bool (decide (x > y)))) := by simp [fastBin]
theorem fb_geq (k : IntKind) (x y : Int) : fastBin .geq (.v (.int k x)) (.v (.int k y)) = some (.v (.bool (decide (x ≥ y)))) := by simp [fastBin]
theorem fb_add (k : IntKind) (x y : Int) : fastBin .add (.v (.int k x)) (.v (.int k y)) = some (.v (.int k (k.wrap (x + y)))) := by simp [fastBin]
theorem fb_sub (k : IntKind) (x y : Int) : fastBin .sub (.v (.int k x)) (.v (.int k y)) = some (.v (.int k (k.wrap (x - y)))) := by simp [fastBin]
theorem fb_neqI (k : IntKind) (x y : Int) : fastBin .neq (.v (.int k x)) (.v (.int k y)) = some (.v (.bool (x != y))) := by simp [fastBin]
theorem fb_eqlI (k : IntKind) (x y : Int) : fastBin .eql (.v (.int k x)) (.v (.int k y)) = some (.v (.bool (x == y))) := by simp [fastBin]
theorem fb_rem (k : IntKind) (x y : Int) (h : 0 < y) : fastBin .rem (.v (.int k x)) (.v (.int k y)) = some (.v (.int k (x.tmod y))) := by simp [fastBin, h]
def intA (n : Nat) : AV := .v (.int .i64 (n : Int))
def i64A (n : Int) : AV := .v (.int .i64 n)
theorem wrap_nat {n : Nat} (h : n ≤ 1000000000) : IntKind.i64.wrap (n : Int) = (n : Int) := by
  rw [← wrap64R_eq]
  have : in64 (n : Int) = true := Nat.ble_eq_true_of_le (by omega)
  unfold wrap64R
  rw [this]
theorem wrap_add {i j : Nat} (h : i + j ≤ 1000000000) : IntKind.i64.wrap ((i : Int) + (j : Int)) = ((i + j : Nat) : Int) := by
  rw [← wrap_nat h]; push_cast; rfl
theorem wrap_one {i : Nat} (h : i + 1 ≤ 1000000000) : IntKind.i64.wrap ((i : Int) + 1) = ((i + 1 : Nat) : Int) := wrap_add (j := 1) h
theorem wrap_pred {i : Nat} (h : i + 1 ≤ 1000000000) : IntKind.i64.wrap (((i + 1 : Nat) : Int) - 1) = (i : Int) := by
  rw [← wrap_nat (n := i) (by omega)]; congr 1; omega
def groundX (P : Program) (G : Gl) (f : T AV) (S : St) (o : Oper) : OR := ground P G f S o
def notO (r : OR) (S : St) (x : Option AV) : OR := match x with
  | some (.v (.bool b)) => .val (.v (.bool (!b))) S
  | _ => r
theorem ground_not (f : T AV) (S : St) (dst : Option Tmp) (k : Tmp) (ty : TypeId) (pos : String) (af : Array Edge) (gd : Option (Nat × Bool)) :
    ground Try.prog (fun _ => none) f S { dst := dst, op := .unOp .not 4 (.tmp k), type := ty, pos := pos, after := af, guard := gd } = notO (groundX Try.prog (fun _ => none) f S { dst := dst, op := .unOp .not 4 (.tmp k), type := ty, pos := pos, after := af, guard := gd }) S (f.get k) := by
  unfold notO
  split
  · rename_i b h
    have hg : groundO (fun _ => none) f (.tmp k) = some (.bool b) := by unfold groundO; simp only [evalO, h]; rfl
    unfold ground
    simp only [Op.operands, List.all_cons, List.all_nil, hg, Option.isSome_some, Bool.and_self, if_true]
    have e : execOp (fun x => (groundO (fun _ => none) f x).getD undef) { dst := dst, op := .unOp .not 4 (.tmp k), type := ty, pos := pos, after := af, guard := gd } = execOp (fun _ => .bool b) { dst := dst, op := .unOp .not 4 (.tmp k), type := ty, pos := pos, after := af, guard := gd } := by
      simp only [execOp, hg, Option.getD_some]
    rw [e]
    cases b <;> rfl
  · rfl
theorem notO_bool (r : OR) (S : St) (b : Bool) : notO r S (some (.v (.bool b))) = .val (.v (.bool (!b))) S := rfl
def maxG2 (x y : Value) : Operand → Value := fun z => match z with
  | .tmp 0 => x
  | _ => y
def maxG3 (x y u : Value) : Operand → Value := fun z => match z with
  | .tmp 0 => x
  | .tmp 1 => y
  | _ => u
theorem gMax_eq (F : Operand → Value) (dst : Option Tmp) (k l : Tmp) (ty : TypeId) (pos : String) (af : Array Edge) (gd : Option (Nat × Bool)) : execOp F { dst := dst, op := .call { callee := .builtin .max, args := #[.tmp k, .tmp l], argTypes := #[3, 3] }, type := ty, pos := pos, after := af, guard := gd } = execOp (maxG2 (F (.tmp k)) (F (.tmp l))) { dst := none, op := .call { callee := .builtin .max, args := #[.tmp 0, .tmp 1], argTypes := #[3, 3] }, type := ty, pos := "", after := #[], guard := none } := by kernel_rfl
theorem gMax_val (a b : Int) (ty : TypeId) : pureN Try.prog 4000 (execOp (maxG2 (.int .i64 a) (.int .i64 b)) { dst := none, op := .call { callee := .builtin .max, args := #[.tmp 0, .tmp 1], argTypes := #[3, 3] }, type := ty, pos := "", after := #[], guard := none }) = some (.int .i64 (if b > a then b else a)) := by kernel_rfl
def gMaxO (r : OR) (S : St) (x0 : Option AV) (x1 : Option AV) : OR := match x0, x1 with
  | some (.v (.int .i64 a)), some (.v (.int .i64 b)) => .val (.v (.int .i64 (if b > a then b else a))) S
  | _, _ => r
theorem gMaxO_i (r : OR) (S : St) (a b : Int) : gMaxO r S (some (.v (.int .i64 a))) (some (.v (.int .i64 b))) = .val (.v (.int .i64 (if b > a then b else a))) S := rfl
theorem gMax (f : T AV) (S : St) (dst : Option Tmp) (k l : Tmp) (ty : TypeId) (pos : String) (af : Array Edge) (gd : Option (Nat × Bool)) :
    ground Try.prog (fun _ => none) f S { dst := dst, op := .call { callee := .builtin .max, args := #[.tmp k, .tmp l], argTypes := #[3, 3] }, type := ty, pos := pos, after := af, guard := gd } = gMaxO (groundX Try.prog (fun _ => none) f S { dst := dst, op := .call { callee := .builtin .max, args := #[.tmp k, .tmp l], argTypes := #[3, 3] }, type := ty, pos := pos, after := af, guard := gd }) S (f.get k) (f.get l) := by
  unfold gMaxO
  split
  · rename_i a b h0 h1
    have hg0 : groundO (fun _ => none) f (.tmp k) = some (.int .i64 a) := by unfold groundO; simp only [evalO, h0]; rfl
    have e0 : (groundO (fun _ => none) f (.tmp k)).getD undef = .int .i64 a := by rw [hg0]; rfl
    have hg1 : groundO (fun _ => none) f (.tmp l) = some (.int .i64 b) := by unfold groundO; simp only [evalO, h1]; rfl
    have e1 : (groundO (fun _ => none) f (.tmp l)).getD undef = .int .i64 b := by rw [hg1]; rfl
    unfold ground
    have hall : ((Op.call { callee := .builtin .max, args := #[.tmp k, .tmp l], argTypes := #[3, 3] } : Op).operands.toList.all fun x => (groundO (fun _ => none) f x).isSome) = true := by
      show ([Operand.tmp k, Operand.tmp l].all fun x => (groundO (fun _ => none) f x).isSome) = true
      simp only [List.all_cons, List.all_nil, hg0, hg1, Option.isSome_some, Bool.and_self]
    refine (if_pos hall).trans ?_
    rw [gMax_eq]
    simp only [e0, e1, gMax_val]
    rfl
  · rfl
theorem gMaxA_eq (F : Operand → Value) (dst : Option Tmp) (k l : Tmp) (ty : TypeId) (pos : String) (af : Array Edge) (gd : Option (Nat × Bool)) : execOp F { dst := dst, op := .call { callee := .builtin .max, args := #[.tmp k, .tmp l, .const (.int .i64 1)], argTypes := #[3, 3, 3] }, type := ty, pos := pos, after := af, guard := gd } = execOp (maxG3 (F (.tmp k)) (F (.tmp l)) (F (.const (.int .i64 1)))) { dst := none, op := .call { callee := .builtin .max, args := #[.tmp 0, .tmp 1, .tmp 2], argTypes := #[3, 3, 3] }, type := ty, pos := "", after := #[], guard := none } := by kernel_rfl
theorem gMaxA_val (a b c : Int) (ty : TypeId) : pureN Try.prog 4000 (execOp (maxG3 (.int .i64 a) (.int .i64 b) (.int .i64 c)) { dst := none, op := .call { callee := .builtin .max, args := #[.tmp 0, .tmp 1, .tmp 2], argTypes := #[3, 3, 3] }, type := ty, pos := "", after := #[], guard := none }) = some (.int .i64 (if c > (if b > a then b else a) then c else (if b > a then b else a))) := by kernel_rfl
def gMaxAO (r : OR) (S : St) (x0 : Option AV) (x1 : Option AV) : OR := match x0, x1 with
  | some (.v (.int .i64 a)), some (.v (.int .i64 b)) => .val (.v (.int .i64 (if 1 > (if b > a then b else a) then 1 else (if b > a then b else a)))) S
  | _, _ => r
theorem gMaxAO_i (r : OR) (S : St) (a b : Int) : gMaxAO r S (some (.v (.int .i64 a))) (some (.v (.int .i64 b))) = .val (.v (.int .i64 (if 1 > (if b > a then b else a) then 1 else (if b > a then b else a)))) S := rfl
theorem gMaxA (f : T AV) (S : St) (dst : Option Tmp) (k l : Tmp) (ty : TypeId) (pos : String) (af : Array Edge) (gd : Option (Nat × Bool)) :
    ground Try.prog (fun _ => none) f S { dst := dst, op := .call { callee := .builtin .max, args := #[.tmp k, .tmp l, .const (.int .i64 1)], argTypes := #[3, 3, 3] }, type := ty, pos := pos, after := af, guard := gd } = gMaxAO (groundX Try.prog (fun _ => none) f S { dst := dst, op := .call { callee := .builtin .max, args := #[.tmp k, .tmp l, .const (.int .i64 1)], argTypes := #[3, 3, 3] }, type := ty, pos := pos, after := af, guard := gd }) S (f.get k) (f.get l) := by
  unfold gMaxAO
  split
  · rename_i a b h0 h1
    have hg0 : groundO (fun _ => none) f (.tmp k) = some (.int .i64 a) := by unfold groundO; simp only [evalO, h0]; rfl
    have e0 : (groundO (fun _ => none) f (.tmp k)).getD undef = .int .i64 a := by rw [hg0]; rfl
    have hg1 : groundO (fun _ => none) f (.tmp l) = some (.int .i64 b) := by unfold groundO; simp only [evalO, h1]; rfl
    have e1 : (groundO (fun _ => none) f (.tmp l)).getD undef = .int .i64 b := by rw [hg1]; rfl
    have hg2 : groundO (fun _ => none) f (.const (.int .i64 1)) = some (.int .i64 1) := rfl
    have e2 : (groundO (fun _ => none) f (.const (.int .i64 1))).getD undef = .int .i64 1 := by rw [hg2]; rfl
    unfold ground
    have hall : ((Op.call { callee := .builtin .max, args := #[.tmp k, .tmp l, .const (.int .i64 1)], argTypes := #[3, 3, 3] } : Op).operands.toList.all fun x => (groundO (fun _ => none) f x).isSome) = true := by
      show ([Operand.tmp k, Operand.tmp l, Operand.const (.int .i64 1)].all fun x => (groundO (fun _ => none) f x).isSome) = true
      simp only [List.all_cons, List.all_nil, hg0, hg1, hg2, Option.isSome_some, Bool.and_self]
    refine (if_pos hall).trans ?_
    rw [gMaxA_eq]
    simp only [e0, e1, e2, gMaxA_val]
    rfl
  · rfl
theorem gMaxB_eq (F : Operand → Value) (dst : Option Tmp) (k l : Tmp) (ty : TypeId) (pos : String) (af : Array Edge) (gd : Option (Nat × Bool)) : execOp F { dst := dst, op := .call { callee := .builtin .max, args := #[.const (.int .i64 1), .tmp k, .tmp l], argTypes := #[3, 3, 3] }, type := ty, pos := pos, after := af, guard := gd } = execOp (maxG3 (F (.const (.int .i64 1))) (F (.tmp k)) (F (.tmp l))) { dst := none, op := .call { callee := .builtin .max, args := #[.tmp 0, .tmp 1, .tmp 2], argTypes := #[3, 3, 3] }, type := ty, pos := "", after := #[], guard := none } := by kernel_rfl
theorem gMaxB_val (a b c : Int) (ty : TypeId) : pureN Try.prog 4000 (execOp (maxG3 (.int .i64 a) (.int .i64 b) (.int .i64 c)) { dst := none, op := .call { callee := .builtin .max, args := #[.tmp 0, .tmp 1, .tmp 2], argTypes := #[3, 3, 3] }, type := ty, pos := "", after := #[], guard := none }) = some (.int .i64 (if c > (if b > a then b else a) then c else (if b > a then b else a))) := by kernel_rfl
def gMaxBO (r : OR) (S : St) (x0 : Option AV) (x1 : Option AV) : OR := match x0, x1 with
  | some (.v (.int .i64 b)), some (.v (.int .i64 c)) => .val (.v (.int .i64 (if c > (if b > 1 then b else 1) then c else (if b > 1 then b else 1)))) S
  | _, _ => r
theorem gMaxBO_i (r : OR) (S : St) (b c : Int) : gMaxBO r S (some (.v (.int .i64 b))) (some (.v (.int .i64 c))) = .val (.v (.int .i64 (if c > (if b > 1 then b else 1) then c else (if b > 1 then b else 1)))) S := rfl
theorem gMaxB (f : T AV) (S : St) (dst : Option Tmp) (k l : Tmp) (ty : TypeId) (pos : String) (af : Array Edge) (gd : Option (Nat × Bool)) :
    ground Try.prog (fun _ => none) f S { dst := dst, op := .call { callee := .builtin .max, args := #[.const (.int .i64 1), .tmp k, .tmp l], argTypes := #[3, 3, 3] }, type := ty, pos := pos, after := af, guard := gd } = gMaxBO (groundX Try.prog (fun _ => none) f S { dst := dst, op := .call { callee := .builtin .max, args := #[.const (.int .i64 1), .tmp k, .tmp l], argTypes := #[3, 3, 3] }, type := ty, pos := pos, after := af, guard := gd }) S (f.get k) (f.get l) := by
  unfold gMaxBO
  split
  · rename_i b c h0 h1
    have hg0 : groundO (fun _ => none) f (.const (.int .i64 1)) = some (.int .i64 1) := rfl
    have e0 : (groundO (fun _ => none) f (.const (.int .i64 1))).getD undef = .int .i64 1 := by rw [hg0]; rfl
    have hg1 : groundO (fun _ => none) f (.tmp k) = some (.int .i64 b) := by unfold groundO; simp only [evalO, h0]; rfl
    have e1 : (groundO (fun _ => none) f (.tmp k)).getD undef = .int .i64 b := by rw [hg1]; rfl
    have hg2 : groundO (fun _ => none) f (.tmp l) = some (.int .i64 c) := by unfold groundO; simp only [evalO, h1]; rfl
    have e2 : (groundO (fun _ => none) f (.tmp l)).getD undef = .int .i64 c := by rw [hg2]; rfl
    unfold ground
    have hall : ((Op.call { callee := .builtin .max, args := #[.const (.int .i64 1), .tmp k, .tmp l], argTypes := #[3, 3, 3] } : Op).operands.toList.all fun x => (groundO (fun _ => none) f x).isSome) = true := by
      show ([Operand.const (.int .i64 1), Operand.tmp k, Operand.tmp l].all fun x => (groundO (fun _ => none) f x).isSome) = true
      simp only [List.all_cons, List.all_nil, hg0, hg1, hg2, Option.isSome_some, Bool.and_self]
    refine (if_pos hall).trans ?_
    rw [gMaxB_eq]
    simp only [e0, e1, e2, gMaxB_val]
    rfl
  · rfl
theorem gMin50_eq (F : Operand → Value) (dst : Option Tmp) (k : Tmp) (ty : TypeId) (pos : String) (af : Array Edge) (gd : Option (Nat × Bool)) : execOp F { dst := dst, op := .call { callee := .builtin .min, args := #[.tmp k, .const (.int .i64 50)], argTypes := #[3, 3] }, type := ty, pos := pos, after := af, guard := gd } = execOp (maxG2 (F (.tmp k)) (F (.const (.int .i64 50)))) { dst := none, op := .call { callee := .builtin .min, args := #[.tmp 0, .tmp 1], argTypes := #[3, 3] }, type := ty, pos := "", after := #[], guard := none } := by kernel_rfl
theorem gMin50_val (a b : Int) (ty : TypeId) : pureN Try.prog 4000 (execOp (maxG2 (.int .i64 a) (.int .i64 b)) { dst := none, op := .call { callee := .builtin .min, args := #[.tmp 0, .tmp 1], argTypes := #[3, 3] }, type := ty, pos := "", after := #[], guard := none }) = some (.int .i64 (if b < a then b else a)) := by kernel_rfl
def gMin50O (r : OR) (S : St) (x0 : Option AV) : OR := match x0 with
  | some (.v (.int .i64 a)) => .val (.v (.int .i64 (if 50 < a then 50 else a))) S
  | _ => r
theorem gMin50O_i (r : OR) (S : St) (a : Int) : gMin50O r S (some (.v (.int .i64 a))) = .val (.v (.int .i64 (if 50 < a then 50 else a))) S := rfl
theorem gMin50 (f : T AV) (S : St) (dst : Option Tmp) (k : Tmp) (ty : TypeId) (pos : String) (af : Array Edge) (gd : Option (Nat × Bool)) :
    ground Try.prog (fun _ => none) f S { dst := dst, op := .call { callee := .builtin .min, args := #[.tmp k, .const (.int .i64 50)], argTypes := #[3, 3] }, type := ty, pos := pos, after := af, guard := gd } = gMin50O (groundX Try.prog (fun _ => none) f S { dst := dst, op := .call { callee := .builtin .min, args := #[.tmp k, .const (.int .i64 50)], argTypes := #[3, 3] }, type := ty, pos := pos, after := af, guard := gd }) S (f.get k) := by
  unfold gMin50O
  split
  · rename_i a h0
    have hg0 : groundO (fun _ => none) f (.tmp k) = some (.int .i64 a) := by unfold groundO; simp only [evalO, h0]; rfl
    have e0 : (groundO (fun _ => none) f (.tmp k)).getD undef = .int .i64 a := by rw [hg0]; rfl
    have hg1 : groundO (fun _ => none) f (.const (.int .i64 50)) = some (.int .i64 50) := rfl
    have e1 : (groundO (fun _ => none) f (.const (.int .i64 50))).getD undef = .int .i64 50 := by rw [hg1]; rfl
    unfold ground
    have hall : ((Op.call { callee := .builtin .min, args := #[.tmp k, .const (.int .i64 50)], argTypes := #[3, 3] } : Op).operands.toList.all fun x => (groundO (fun _ => none) f x).isSome) = true := by
      show ([Operand.tmp k, Operand.const (.int .i64 50)].all fun x => (groundO (fun _ => none) f x).isSome) = true
      simp only [List.all_cons, List.all_nil, hg0, hg1, Option.isSome_some, Bool.and_self]
    refine (if_pos hall).trans ?_
    rw [gMin50_eq]
    simp only [e0, e1, gMin50_val]
    rfl
  · rfl
theorem gMin10_eq (F : Operand → Value) (dst : Option Tmp) (k : Tmp) (ty : TypeId) (pos : String) (af : Array Edge) (gd : Option (Nat × Bool)) : execOp F { dst := dst, op := .call { callee := .builtin .min, args := #[.tmp k, .const (.int .i64 10)], argTypes := #[3, 3] }, type := ty, pos := pos, after := af, guard := gd } = execOp (maxG2 (F (.tmp k)) (F (.const (.int .i64 10)))) { dst := none, op := .call { callee := .builtin .min, args := #[.tmp 0, .tmp 1], argTypes := #[3, 3] }, type := ty, pos := "", after := #[], guard := none } := by kernel_rfl
theorem gMin10_val (a b : Int) (ty : TypeId) : pureN Try.prog 4000 (execOp (maxG2 (.int .i64 a) (.int .i64 b)) { dst := none, op := .call { callee := .builtin .min, args := #[.tmp 0, .tmp 1], argTypes := #[3, 3] }, type := ty, pos := "", after := #[], guard := none }) = some (.int .i64 (if b < a then b else a)) := by kernel_rfl
def gMin10O (r : OR) (S : St) (x0 : Option AV) : OR := match x0 with
  | some (.v (.int .i64 a)) => .val (.v (.int .i64 (if 10 < a then 10 else a))) S
  | _ => r
theorem gMin10O_i (r : OR) (S : St) (a : Int) : gMin10O r S (some (.v (.int .i64 a))) = .val (.v (.int .i64 (if 10 < a then 10 else a))) S := rfl
theorem gMin10 (f : T AV) (S : St) (dst : Option Tmp) (k : Tmp) (ty : TypeId) (pos : String) (af : Array Edge) (gd : Option (Nat × Bool)) :
    ground Try.prog (fun _ => none) f S { dst := dst, op := .call { callee := .builtin .min, args := #[.tmp k, .const (.int .i64 10)], argTypes := #[3, 3] }, type := ty, pos := pos, after := af, guard := gd } = gMin10O (groundX Try.prog (fun _ => none) f S { dst := dst, op := .call { callee := .builtin .min, args := #[.tmp k, .const (.int .i64 10)], argTypes := #[3, 3] }, type := ty, pos := pos, after := af, guard := gd }) S (f.get k) := by
  unfold gMin10O
  split
  · rename_i a h0
    have hg0 : groundO (fun _ => none) f (.tmp k) = some (.int .i64 a) := by unfold groundO; simp only [evalO, h0]; rfl
    have e0 : (groundO (fun _ => none) f (.tmp k)).getD undef = .int .i64 a := by rw [hg0]; rfl
    have hg1 : groundO (fun _ => none) f (.const (.int .i64 10)) = some (.int .i64 10) := rfl
    have e1 : (groundO (fun _ => none) f (.const (.int .i64 10))).getD undef = .int .i64 10 := by rw [hg1]; rfl
    unfold ground
    have hall : ((Op.call { callee := .builtin .min, args := #[.tmp k, .const (.int .i64 10)], argTypes := #[3, 3] } : Op).operands.toList.all fun x => (groundO (fun _ => none) f x).isSome) = true := by
      show ([Operand.tmp k, Operand.const (.int .i64 10)].all fun x => (groundO (fun _ => none) f x).isSome) = true
      simp only [List.all_cons, List.all_nil, hg0, hg1, Option.isSome_some, Bool.and_self]
    refine (if_pos hall).trans ?_
    rw [gMin10_eq]
    simp only [e0, e1, gMin10_val]
    rfl
  · rfl
theorem gMin200_eq (F : Operand → Value) (dst : Option Tmp) (k : Tmp) (ty : TypeId) (pos : String) (af : Array Edge) (gd : Option (Nat × Bool)) : execOp F { dst := dst, op := .call { callee := .builtin .min, args := #[.tmp k, .const (.int .i64 200)], argTypes := #[3, 3] }, type := ty, pos := pos, after := af, guard := gd } = execOp (maxG2 (F (.tmp k)) (F (.const (.int .i64 200)))) { dst := none, op := .call { callee := .builtin .min, args := #[.tmp 0, .tmp 1], argTypes := #[3, 3] }, type := ty, pos := "", after := #[], guard := none } := by kernel_rfl
theorem gMin200_val (a b : Int) (ty : TypeId) : pureN Try.prog 4000 (execOp (maxG2 (.int .i64 a) (.int .i64 b)) { dst := none, op := .call { callee := .builtin .min, args := #[.tmp 0, .tmp 1], argTypes := #[3, 3] }, type := ty, pos := "", after := #[], guard := none }) = some (.int .i64 (if b < a then b else a)) := by kernel_rfl
def gMin200O (r : OR) (S : St) (x0 : Option AV) : OR := match x0 with
  | some (.v (.int .i64 a)) => .val (.v (.int .i64 (if 200 < a then 200 else a))) S
  | _ => r
theorem gMin200O_i (r : OR) (S : St) (a : Int) : gMin200O r S (some (.v (.int .i64 a))) = .val (.v (.int .i64 (if 200 < a then 200 else a))) S := rfl
theorem gMin200 (f : T AV) (S : St) (dst : Option Tmp) (k : Tmp) (ty : TypeId) (pos : String) (af : Array Edge) (gd : Option (Nat × Bool)) :
    ground Try.prog (fun _ => none) f S { dst := dst, op := .call { callee := .builtin .min, args := #[.tmp k, .const (.int .i64 200)], argTypes := #[3, 3] }, type := ty, pos := pos, after := af, guard := gd } = gMin200O (groundX Try.prog (fun _ => none) f S { dst := dst, op := .call { callee := .builtin .min, args := #[.tmp k, .const (.int .i64 200)], argTypes := #[3, 3] }, type := ty, pos := pos, after := af, guard := gd }) S (f.get k) := by
  unfold gMin200O
  split
  · rename_i a h0
    have hg0 : groundO (fun _ => none) f (.tmp k) = some (.int .i64 a) := by unfold groundO; simp only [evalO, h0]; rfl
    have e0 : (groundO (fun _ => none) f (.tmp k)).getD undef = .int .i64 a := by rw [hg0]; rfl
    have hg1 : groundO (fun _ => none) f (.const (.int .i64 200)) = some (.int .i64 200) := rfl
    have e1 : (groundO (fun _ => none) f (.const (.int .i64 200))).getD undef = .int .i64 200 := by rw [hg1]; rfl
    unfold ground
    have hall : ((Op.call { callee := .builtin .min, args := #[.tmp k, .const (.int .i64 200)], argTypes := #[3, 3] } : Op).operands.toList.all fun x => (groundO (fun _ => none) f x).isSome) = true := by
      show ([Operand.tmp k, Operand.const (.int .i64 200)].all fun x => (groundO (fun _ => none) f x).isSome) = true
      simp only [List.all_cons, List.all_nil, hg0, hg1, Option.isSome_some, Bool.and_self]
    refine (if_pos hall).trans ?_
    rw [gMin200_eq]
    simp only [e0, e1, gMin200_val]
    rfl
  · rfl

-- equations that the kernel need not find again
section
variable {E : Env} {n : Nat} {f : Fr} {S : St} {Q : O → Prop} {ops : Array Oper} {t : T AV} {ds : List Dfr}
theorem seqQ_normal2 {b : Code} : seqQ E n b Q (.out .normal f S) = W E n b f S Q := _root_.id rfl
theorem WL_nil2 : WL E n ops [] f S Q = Q (.out .normal f S) := _root_.id rfl
theorem WR_nil2 : WR E n ops [] f S Q = Q (.out .normal f S) := _root_.id rfl
theorem execL_val2 {o : Oper} {l : List Oper} {a : AV} {S' : St} : execL E n ops o l f S Q (some true) (.val a S') = putL E n ops l o.dst f a S' Q := _root_.id rfl
theorem execL_skip2 {o : Oper} {l : List Oper} {S' : St} : execL E n ops o l f S Q (some true) (.skip S') = putL E n ops l o.dst f (.tup []) S' Q := _root_.id rfl
theorem execL_enter2 {o : Oper} {l : List Oper} {k : FuncId} {args : List AV} {S' : St} : execL E n ops o l f S Q (some true) (.enter k args S') = WC E k args S' (retL E n ops l o.dst f Q) := _root_.id rfl
theorem execL_pan2 {o : Oper} {l : List Oper} {a : AV} {S' : St} : execL E n ops o l f S Q (some true) (.pan a S') = Q (.out (.pan a) f S') := _root_.id rfl
theorem putL_none2 {l : List Oper} {a : AV} : putL E n ops l none f a S Q = WL E n ops l f S Q := _root_.id rfl
theorem putL_some2 {l : List Oper} {d : Nat} {a : AV} : putL E n ops l (some d) ⟨t, ds⟩ a S Q = (d < n ∧ WL E n ops l ⟨t.set d (some a), ds⟩ S Q) := _root_.id rfl
theorem retL_ret2 {l : List Oper} {dst : Option Tmp} {a : AV} : retL E n ops l dst f Q (.ret a S) = putL E n ops l dst f a S Q := _root_.id rfl
theorem retL_pan2 {l : List Oper} {dst : Option Tmp} {a : AV} : retL E n ops l dst f Q (.pan a S) = Q (.out (.pan a) f S) := _root_.id rfl
theorem WR_re2 {o : Oper} {l : List RS} : WR E n ops (.re o :: l) f S Q = (againO E ops o f.tmps S = true ∧ WR E n ops l f S Q) := _root_.id rfl
theorem execR_val2 {o : Oper} {l : List RS} {a : AV} {S' : St} : execR E n ops o l f S Q (some true) (.val a S') = putRW E n ops l o.dst f a S' Q := _root_.id rfl
theorem execR_skip2 {o : Oper} {l : List RS} {S' : St} : execR E n ops o l f S Q (some true) (.skip S') = putRW E n ops l o.dst f (.tup []) S' Q := _root_.id rfl
theorem execR_enter2 {o : Oper} {l : List RS} {k : FuncId} {args : List AV} {S' : St} : execR E n ops o l f S Q (some true) (.enter k args S') = WC E k args S' (retRW E n ops l o.dst f Q) := _root_.id rfl
theorem putRW_none2 {l : List RS} {a : AV} : putRW E n ops l none f a S Q = WR E n ops l f S Q := _root_.id rfl
theorem putRW_some2 {l : List RS} {d : Nat} {a : AV} : putRW E n ops l (some d) ⟨t, ds⟩ a S Q = (d < n ∧ WR E n ops l ⟨t.set d (some a), ds⟩ S Q) := _root_.id rfl
theorem retRW_ret2 {l : List RS} {dst : Option Tmp} {a : AV} : retRW E n ops l dst f Q (.ret a S) = putRW E n ops l dst f a S Q := _root_.id rfl
theorem condW_t2 {x y : Prop} : condW (some (.v (.bool true))) x y = x := _root_.id rfl
theorem condW_f2 {x y : Prop} : condW (some (.v (.bool false))) x y = y := _root_.id rfl
theorem seqQ_exit2 {b : Code} {id : Nat} : seqQ E n b Q (.out (.exit id) f S) = Q (.out (.exit id) f S) := _root_.id rfl
theorem seqQ_ret2 {b : Code} : seqQ E n b Q (.out .ret f S) = Q (.out .ret f S) := _root_.id rfl
theorem seqQ_pan2 {b : Code} {a : AV} : seqQ E n b Q (.out (.pan a) f S) = Q (.out (.pan a) f S) := _root_.id rfl
theorem blockW_normal2 {id : Nat} : blockW id Q (.out .normal f S) = Q (.out .normal f S) := _root_.id rfl
theorem blockW_ret2 {id : Nat} : blockW id Q (.out .ret f S) = Q (.out .ret f S) := _root_.id rfl
theorem blockW_pan2 {id : Nat} {a : AV} : blockW id Q (.out (.pan a) f S) = Q (.out (.pan a) f S) := _root_.id rfl
theorem blockW_exit2 {id id' : Nat} : blockW id Q (.out (.exit id') f S) = if id' = id then Q (.out .normal f S) else Q (.out (.exit id') f S) := _root_.id rfl
theorem fixQ_normal2 {g : Fr} : fixQ ops g Q (.out .normal f S) = Q (.out .normal f S) := _root_.id rfl
end
/-- All that was there is as it was. -/
def Keep (S S' : St) : Prop := S.next ≤ S'.next ∧ ∀ id, id < S.next → S'.mem.get id = S.mem.get id
theorem Keep.refl (S : St) : Keep S S := ⟨Nat.le_refl _, fun _ _ => rfl⟩
theorem Keep.trans {S S1 S2 : St} (h : Keep S S1) (k : Keep S1 S2) : Keep S S2 := ⟨Nat.le_trans h.1 k.1, fun id hid => (k.2 id (Nat.lt_of_lt_of_le hid h.1)).trans (h.2 id hid)⟩
def St.put (S : St) (id : Nat) (cs : List AV) : St := { S with mem := S.mem.set id (some (.box cs)) }
theorem get_put (S : St) (id j : Nat) (cs : List AV) : (S.put id cs).mem.get j = if j = id then some (.box cs) else S.mem.get j := T.get_set _ _ _ _
theorem put_next (S : St) (id : Nat) (cs : List AV) : (S.put id cs).next = S.next := rfl
theorem get_newBox (S : St) (j : Nat) (cs : List AV) : (S.newBox cs).mem.get j = if j = S.next then some (.box cs) else S.mem.get j := T.get_set _ _ _ _
theorem newBox_next (S : St) (cs : List AV) : (S.newBox cs).next = S.next + 1 := rfl
theorem keep_new (S : St) (cs : List AV) : Keep S (S.newBox cs) := ⟨Nat.le_succ _, fun id hid => by rw [get_newBox, if_neg (by omega)]⟩
theorem keep_put {S S' : St} (h : Keep S S') {id : Nat} (hid : S.next ≤ id) (cs : List AV) : Keep S (S'.put id cs) := ⟨h.1, fun k hk => by
  rw [get_put, if_neg (by omega)]; exact h.2 k hk⟩

-- places and loads
def cellO (c : Option Cell) (k : Nat) : Option AV := match c with
  | some (.box cs) => cs[k]?
  | _ => none
theorem cellO_box (cs : List AV) (k : Nat) : cellO (some (.box cs)) k = cs[k]? := rfl
theorem load1 {t : TypeId} (ha : isAggT Try.prog t = some false) (S : St) (p k : Nat) : oLoad Try.prog S t (.ptr p k) = cellO (S.mem.get p) k := by
  unfold oLoad behind cellO
  simp only [ha]
  cases h : S.mem.get p with
  | none => simp only [h]
  | some c =>
    cases c with
    | box cs =>
      simp only [h]
      by_cases hk : k ≤ cs.length
      · rw [if_pos hk]
        simp only
        cases hd : cs.drop k with
        | nil =>
          have hl := congrArg List.length hd
          simp at hl
          rw [List.getElem?_eq_none (by omega)]; rfl
        | cons a r =>
          have h0 : (cs.drop k)[0]? = some a := by rw [hd]; rfl
          rw [List.getElem?_drop, Nat.add_zero] at h0
          rw [h0]; rfl
      · rw [if_neg hk, List.getElem?_eq_none (by omega)]
    | tip m => simp only [h]
    | mp es => simp only [h]
theorem ld3 (S : St) (p k : Nat) : oLoad Try.prog S 3 (.ptr p k) = cellO (S.mem.get p) k := load1 (by kernel_rfl) S p k
theorem ld2 (S : St) (p k : Nat) : oLoad Try.prog S 2 (.ptr p k) = cellO (S.mem.get p) k := load1 (by kernel_rfl) S p k
theorem ld22 (S : St) (p k : Nat) : oLoad Try.prog S 22 (.ptr p k) = cellO (S.mem.get p) k := load1 (by kernel_rfl) S p k
theorem ld2ep (S : St) (a : AV) : oLoad Try.prog S 2 (.ep [a]) = some a := by
  have : isAggT Try.prog 2 = some false := by kernel_rfl
  simp [oLoad, behind, this]
theorem store1 {t : TypeId} (hs : sizeT Try.prog t = some 1) (S : St) (p k : Nat) (x : AV) (cs : List AV) (hx : x.one = true) (hm : S.mem.get p = some (.box cs)) (hk : k < cs.length) : oStore Try.prog S t (.ptr p k) x = some (S.put p (cs.set k x)) := by
  have hn : x.noTup = true := by cases x <;> first | rfl | cases hx
  have hc : x.cells = [x] := by cases x <;> first | rfl | cases hx
  unfold oStore
  simp only [hm, hs, hn, hc, List.length_cons, List.length_nil, Nat.zero_add, beq_self_eq_true, Bool.true_and]
  rw [if_pos (decide_eq_true (by omega))]
  have : cs.take k ++ [x] ++ cs.drop (k + 1) = cs.set k x := by
    rw [List.set_eq_take_append_cons_drop, if_pos hk, List.append_assoc]; rfl
  rw [this]; rfl
theorem s3 : sizeT Try.prog 3 = some 1 := by kernel_rfl
theorem s2 : sizeT Try.prog 2 = some 1 := by kernel_rfl
theorem s22 : sizeT Try.prog 22 = some 1 := by kernel_rfl
theorem fa43_0 (p : Nat) : oFieldAddr Try.prog 43 (.ptr p 0) 0 = some (.ptr p 0) := by kernel_rfl
theorem fa43_1 (p : Nat) : oFieldAddr Try.prog 43 (.ptr p 0) 1 = some (.ptr p 1) := by kernel_rfl
theorem fa43_2 (p : Nat) : oFieldAddr Try.prog 43 (.ptr p 0) 2 = some (.ptr p 2) := by kernel_rfl
theorem fa43_3 (p : Nat) : oFieldAddr Try.prog 43 (.ptr p 0) 3 = some (.ptr p 3) := by kernel_rfl
theorem fa28_0 (p : Nat) : oFieldAddr Try.prog 28 (.ptr p 0) 0 = some (.ptr p 0) := by kernel_rfl
theorem fa28_1 (p : Nat) : oFieldAddr Try.prog 28 (.ptr p 0) 1 = some (.ptr p 1) := by kernel_rfl
theorem fa28_2 (p : Nat) : oFieldAddr Try.prog 28 (.ptr p 0) 2 = some (.ptr p 2) := by kernel_rfl
theorem u22 : Try.prog.underlying 22 = some (.slice 2) := by kernel_rfl
theorem e22 : elemT Try.prog 22 = some (none, 2) := by kernel_rfl
theorem lenBs (S : St) (id off n sz : Nat) : oLen Try.prog S 22 (.bs id off n sz) = some n := by simp [oLen, u22]
-- rows of numbers
def rowIs (v : AV) (L : List Int) : Prop := (v = .nils ∧ L = []) ∨ ∃ tok off, v = .sl tok off 1 (L.map i64A)
theorem len22 (S : St) {v : AV} {L : List Int} (h : rowIs v L) : oLen Try.prog S 22 v = some L.length := by
  rcases h with ⟨rfl, rfl⟩ | ⟨tok, off, rfl⟩ <;> simp [oLen, u22]
theorem flat_int : ∀ l : List Int, flat (l.map i64A) = l.map i64A
  | [] => rfl
  | a :: l => by rw [List.map_cons, flat_cons, flat_int l]; rfl
theorem rowIs_one {v : AV} {L : List Int} (h : rowIs v L) : v.one = true := by
  rcases h with ⟨rfl, rfl⟩ | ⟨tok, off, rfl⟩ <;> rfl
theorem ix22 (tok off : Nat) (L : List Int) (i : Nat) (h : i < L.length) : oIndexAddr Try.prog 22 (.sl tok off 1 (L.map i64A)) (.v (.int .i64 (i : Int))) = some (.ep [i64A L[i]]) := by
  simp [oIndexAddr, e22, s2, h, i64A, AV.cells]
theorem ixBs (id off n i : Nat) (h : i < n) : oIndexAddr Try.prog 22 (.bs id off n 1) (.v (.int .i64 (i : Int))) = some (.ptr id (off + i)) := by
  simp [oIndexAddr, e22, s2, h]
theorem lit22_0 : oBuildSlice Try.prog 22 0 [] = some (.sl 1 0 1 []) := by
  obtain ⟨z, hz⟩ : ∃ z, zeroA Try.prog 2 = some z := Option.isSome_iff_exists.1 (by kernel_rfl)
  simp [oBuildSlice, e22, s2, hz]
theorem lit22_1 (n : Int) : oBuildSlice Try.prog 22 1 [(0, .v (.int .i64 n))] = some (.sl 1 0 1 [.v (.int .i64 n)]) := by
  obtain ⟨z, hz⟩ : ∃ z, zeroA Try.prog 2 = some z := Option.isSome_iff_exists.1 (by kernel_rfl)
  simp [oBuildSlice, e22, s2, hz, AV.noTup, AV.cells]
theorem app22 (S : St) (a b : AV) : appendE E1 S 22 22 a b = oAppend Try.prog S 22 22 a b := rfl
/-- A row that may be appended to. -/
def RowA (S : St) (v : AV) (L : List Int) : Prop := (v = .nils ∧ L = []) ∨ (v = .sl 1 0 1 [] ∧ L = []) ∨ ∃ k, v = .sl (k + 2) 0 1 (L.map i64A) ∧ S.mem.get (k + 2) = some (.tip L.length) ∧ k + 2 < S.next
theorem RowA.is {S : St} {v : AV} {L : List Int} (h : RowA S v L) : rowIs v L := by
  rcases h with ⟨rfl, rfl⟩ | ⟨rfl, rfl⟩ | ⟨k, rfl, _⟩
  · exact .inl ⟨rfl, rfl⟩
  · exact .inr ⟨1, 0, rfl⟩
  · exact .inr ⟨_, _, rfl⟩
/-- Boxes are as they were. -/
def KeepB (S S' : St) : Prop := S.next ≤ S'.next ∧ ∀ id cs, id < S.next → S.mem.get id = some (.box cs) → S'.mem.get id = some (.box cs)
theorem KeepB.refl (S : St) : KeepB S S := ⟨Nat.le_refl _, fun _ _ _ h => h⟩
theorem KeepB.trans {S S1 S2 : St} (h : KeepB S S1) (k : KeepB S1 S2) : KeepB S S2 := ⟨Nat.le_trans h.1 k.1, fun id cs hid e => k.2 id cs (Nat.lt_of_lt_of_le hid h.1) (h.2 id cs hid e)⟩
theorem Keep.b {S S' : St} (h : Keep S S') : KeepB S S' := ⟨h.1, fun id cs hid e => (h.2 id hid).trans e⟩
theorem i2 : (Try.prog.info? 2).map (fun i => (i.zero, i.size, i.bytes)) = some (some (.int .i64 0), 1, 8) := by kernel_rfl
theorem infoG_parts {P : Program} {t : TypeId} {z : Option Value} {s b : Nat} (h : (P.info? t).map (fun i => (i.zero, i.size, i.bytes)) = some (z, s, b)) : ∃ i, P.info? t = some i ∧ i.zero = z ∧ i.size = s ∧ i.bytes = b := by
  cases hi : P.info? t with
  | none => rw [hi] at h; cases h
  | some i =>
    rw [hi] at h
    simp only [Option.map_some, Option.some.injEq, Prod.mk.injEq] at h
    exact ⟨i, rfl, h.1, h.2.1, h.2.2⟩
theorem append_w {S : St} (h2 : 2 ≤ S.next) {v b : AV} {L M : List Int} (h : RowA S v L) (hb : rowIs b M) (hl : L.length + M.length ≤ 1000000) :
    ∃ v' S', oAppend Try.prog S 22 22 v b = some (v', S') ∧ RowA S' v' (L ++ M) ∧ KeepB S S' := by
  obtain ⟨i, hi, hz0, hz1, hz2⟩ := infoG_parts i2
  have hsrc : srcA Try.prog 22 1 b = some (M.map i64A) := by rcases hb with ⟨rfl, rfl⟩ | ⟨tok, off, rfl⟩ <;> simp [srcA, u22]
  cases M with
  | nil =>
    refine ⟨v, S, ?_, by rw [List.append_nil]; exact h, KeepB.refl S⟩
    rcases h with ⟨rfl, rfl⟩ | ⟨rfl, rfl⟩ | ⟨k, rfl, _⟩ <;> simp [oAppend, e22, hi, hz0, hz1, hz2, hsrc, Value.cells]
  | cons m M =>
    have b1 : (M.length + 1) * 8 ≤ 140737488355328 := by simp at hl; omega
    have b2 : M.length + 1 ≤ 9223372036854775807 := by simp at hl; omega
    have b3 : (L.length + (M.length + 1)) * 8 ≤ 140737488355328 := by simp at hl; omega
    have b4 : L.length + (M.length + 1) ≤ 9223372036854775807 := by simp at hl; omega
    have fresh : ∀ tok n es, tok < 2 ∨ (S.mem.get tok = some (.tip L.length) ∧ tok < S.next) → n = (L ++ m :: M).length → es = (L ++ m :: M).map i64A → RowA (S.grown tok n) (.sl S.next 0 1 es) (L ++ m :: M) ∧ KeepB S (S.grown tok n) := by
      intro tok n es ht hn he
      subst hn he
      refine ⟨.inr (.inr ⟨S.next - 2, by rw [show S.next - 2 + 2 = S.next by omega], ?_, ?_⟩), Nat.le_succ _, fun id cs hid e => ?_⟩
      · rw [show S.next - 2 + 2 = S.next by omega]
        show ((S.kill tok).mem.set S.next _).get S.next = _
        rw [T.get_set, if_pos rfl]
      · show S.next - 2 + 2 < S.next + 1; omega
      · show ((S.kill tok).mem.set S.next _).get id = _
        rw [T.get_set, if_neg (by omega)]
        unfold St.kill
        split
        · exact e
        · exact e
        · rename_i k
          show (S.mem.set (k + 2) none).get id = _
          rw [T.get_set, if_neg]
          · exact e
          · intro hk
            rcases ht with ht | ht
            · omega
            · rw [hk, ht.1] at e; cases e
    rcases h with ⟨rfl, rfl⟩ | ⟨rfl, rfl⟩ | ⟨k, rfl, h5, h6⟩
    · obtain ⟨k1, k2⟩ := fresh 1 ((m :: M).map i64A).length ((m :: M).map i64A) (.inl (by decide)) (by simp) rfl
      refine ⟨_, _, ?_, k1, k2⟩
      simp [oAppend, e22, hi, hz0, hz1, hz2, hsrc, Value.cells, b1, b2]
    · obtain ⟨k1, k2⟩ := fresh 1 ((m :: M).map i64A).length ((m :: M).map i64A) (.inl (by decide)) (by simp) rfl
      refine ⟨_, _, ?_, k1, k2⟩
      simp [oAppend, e22, hi, hz0, hz1, hz2, hsrc, Value.cells, tipOk, b1, b2]
    · obtain ⟨k1, k2⟩ := fresh (k + 2) ((L ++ m :: M).map i64A).length ((L ++ m :: M).map i64A) (.inr ⟨h5, h6⟩) (by simp) rfl
      refine ⟨_, _, ?_, k1, k2⟩
      simp [oAppend, e22, hi, hz0, hz1, hz2, hsrc, Value.cells, tipOk, h5, b3, b4]
end Go.Ax
noncomputable section
namespace Go.Ax
open Go.RowKit Go.Proofs
set_option linter.unusedVariables false
set_option linter.unusedSimpArgs false
set_option maxRecDepth 100000

theorem beqL_refl_int : ∀ l : List Int, beqL (l.map i64A) (l.map i64A) = true
  | [] => rfl
  | a :: l => by simp [beqL, beqA, i64A, eqS, beqL_refl_int l]
theorem beqA_row {v : AV} {L : List Int} (h : rowIs v L) : beqA v v = true := by
  rcases h with ⟨rfl, rfl⟩ | ⟨tok, off, rfl⟩
  · rfl
  · simp [beqA, beqL_refl_int]
theorem beqA_int (n : Int) : beqA (.v (.int .i64 n)) (.v (.int .i64 n)) = true := by simp [beqA, eqS]
theorem beqA_ptr (p o : Nat) : beqA (.ptr p o) (.ptr p o) = true := by simp [beqA]
theorem beqA_bs (a b c d : Nat) : beqA (.bs a b c d) (.bs a b c d) = true := by simp [beqA]
/-- A queue's box. -/
def QB (r room first count most : Nat) : List AV := [.bs r 0 room 1, .v (.int .i64 (first : Int)), .v (.int .i64 (count : Int)), .v (.int .i64 (most : Int))]
theorem fnOk17 : ∃ fn, E1.F 17 = some fn := Option.isSome_iff_exists.1 (by kernel_rfl)
theorem tmod_nat (a b : Nat) : ((a : Int)).tmod (b : Int) = ((a % b : Nat) : Int) := by
  rw [Int.tmod_eq_emod_of_nonneg (by omega)]; rfl
set_option maxHeartbeats 4000000 in
theorem place_w (S : St) (q r room first count most a : Nat) (h : S.mem.get q = some (.box (QB r room first count most))) (h0 : 0 < room) (hf : first + a ≤ 1000000) (hr : room ≤ 1000000) :
    WC E1 17 [.ptr q 0, .v (.int .i64 (a : Int))] S (fun x => x = .ret (.v (.int .i64 (((first + a) % room : Nat) : Int))) S) := by
  refine WC_fn Try.f17 (by kernel_rfl) (by kernel_rfl) (by kernel_rfl) (show (_ : Nat) ≤ _ from by show (_ : Nat) ≤ _; simp [Try.f17]) ?_
  have hrem : fastBin .rem (.v (.int .i64 ((first + a : Nat) : Int))) (.v (.int .i64 (room : Int))) = some (.v (.int .i64 (((first + a) % room : Nat) : Int))) := by
    rw [fb_rem _ _ _ (by omega), tmod_nat]
  have hw := wrap_add (i := first) (j := a) (by omega)
  have hl := fun S => lenBs S r 0 room 1
  unfold QB at h
  simp only [thenW_normal, thenW_exit, thenW_ret, thenW_pan, W_skip, W_region, W_drawn, W_seq, W_cond, W_block, W_loop, W_exit, W_ret, seqQ_normal2, seqQ_exit2, seqQ_ret2, seqQ_pan2, blockW_normal2, blockW_ret2, blockW_pan2, blockW_exit2, WL_nil2, WL_cons, execL_no, execL_val2, execL_skip2, execL_enter2, execL_pan2, putL_none2, putL_some2, retL_ret2, retL_pan2, condW_t2, condW_f2, WR_nil2, WR_op, WR_re2, execR_no, execR_val2, execR_skip2, execR_enter2, putRW_none2, putRW_some2, retRW_ret2, fixQ_normal2, wantedA, exec1, evalO, initT, T.get_set, T.get_leaf, callA, mapO, ofOpt, ofOptS, ofConst, e1_P, e1_G, partsA, neNil3, neNil2, finW_ret, finW_pan, giveW, resultsA, tupA, fb_lss, fb_leq, fb_gtr, fb_geq, fb_add, fb_sub, fb_eqlI, fb_neqI, Nat.reduceLT, Nat.reduceAdd, Nat.reduceEqDiff, if_true, if_false, reduceIte, true_and, and_true, Option.getD_some, List.getElem?_toArray, List.getElem?_cons_succ, List.getElem?_cons_zero, Option.bind_some, List.nil_append, List.append_nil, beq_self_eq_true, Bool.false_eq_true, Bool.true_eq_false, decide_true, decide_false, Bool.not_true, Bool.not_false, Bool.false_beq, Bool.true_beq, Option.toList, List.head?_cons, List.head?_nil, app22, ld3, ld2, ld22, fa43_0, fa43_1, fa43_2, fa43_3, fa28_0, fa28_1, fa28_2, cellO_box, oExtract, get_put, put_next, get_newBox, newBox_next, lit22_1, lit22_0, AV.noTup, Try.f17]
  refine WD_by [(0, true), (1, true), (2, true), (3, true), (4, true), (5, true), (6, true), (7, true), (8, true), (9, true), (10, true), (11, true), (12, true)] (by kernel_rfl) (by kernel_rfl) ?_
  simp only [thenW_normal, thenW_exit, thenW_ret, thenW_pan, W_skip, W_region, W_drawn, W_seq, W_cond, W_block, W_loop, W_exit, W_ret, seqQ_normal2, seqQ_exit2, seqQ_ret2, seqQ_pan2, blockW_normal2, blockW_ret2, blockW_pan2, blockW_exit2, WL_nil2, WL_cons, execL_no, execL_val2, execL_skip2, execL_enter2, execL_pan2, putL_none2, putL_some2, retL_ret2, retL_pan2, condW_t2, condW_f2, WR_nil2, WR_op, WR_re2, execR_no, execR_val2, execR_skip2, execR_enter2, putRW_none2, putRW_some2, retRW_ret2, fixQ_normal2, wantedA, exec1, evalO, initT, T.get_set, T.get_leaf, callA, mapO, ofOpt, ofOptS, ofConst, e1_P, e1_G, partsA, neNil3, neNil2, finW_ret, finW_pan, giveW, resultsA, tupA, fb_lss, fb_leq, fb_gtr, fb_geq, fb_add, fb_sub, fb_eqlI, fb_neqI, Nat.reduceLT, Nat.reduceAdd, Nat.reduceEqDiff, if_true, if_false, reduceIte, true_and, and_true, Option.getD_some, List.getElem?_toArray, List.getElem?_cons_succ, List.getElem?_cons_zero, Option.bind_some, List.nil_append, List.append_nil, beq_self_eq_true, Bool.false_eq_true, Bool.true_eq_false, decide_true, decide_false, Bool.not_true, Bool.not_false, Bool.false_beq, Bool.true_beq, Option.toList, List.head?_cons, List.head?_nil, app22, ld3, ld2, ld22, fa43_0, fa43_1, fa43_2, fa43_3, fa28_0, fa28_1, fa28_2, cellO_box, oExtract, get_put, put_next, get_newBox, newBox_next, lit22_1, lit22_0, AV.noTup, Try.f17, rsOf, againO, lookV, beqA_row, beqA_int, beqA_ptr, beqA_bs, h, hl, hw, hrem]
theorem fnOk14 : ∃ fn, E1.F 14 = some fn := Option.isSome_iff_exists.1 (by kernel_rfl)
theorem fnOk15 : ∃ fn, E1.F 15 = some fn := Option.isSome_iff_exists.1 (by kernel_rfl)
theorem fnOk16 : ∃ fn, E1.F 16 = some fn := Option.isSome_iff_exists.1 (by kernel_rfl)
set_option maxHeartbeats 4000000 in
theorem len_w (S : St) (q r room first count most : Nat) (h : S.mem.get q = some (.box (QB r room first count most))) :
    WC E1 14 [.ptr q 0] S (fun x => x = .ret (.v (.int .i64 (count : Int))) S) := by
  refine WC_fn Try.f14 (by kernel_rfl) (by kernel_rfl) (by kernel_rfl) (show (_ : Nat) ≤ _ from by show (_ : Nat) ≤ _; simp [Try.f14]) ?_
  unfold QB at h
  simp only [thenW_normal, thenW_exit, thenW_ret, thenW_pan, W_skip, W_region, W_drawn, W_seq, W_cond, W_block, W_loop, W_exit, W_ret, seqQ_normal2, seqQ_exit2, seqQ_ret2, seqQ_pan2, blockW_normal2, blockW_ret2, blockW_pan2, blockW_exit2, WL_nil2, WL_cons, execL_no, execL_val2, execL_skip2, execL_enter2, execL_pan2, putL_none2, putL_some2, retL_ret2, retL_pan2, condW_t2, condW_f2, WR_nil2, WR_op, WR_re2, execR_no, execR_val2, execR_skip2, execR_enter2, putRW_none2, putRW_some2, retRW_ret2, fixQ_normal2, wantedA, exec1, evalO, initT, T.get_set, T.get_leaf, callA, mapO, ofOpt, ofOptS, ofConst, e1_P, e1_G, partsA, neNil3, neNil2, finW_ret, finW_pan, giveW, resultsA, tupA, fb_lss, fb_leq, fb_gtr, fb_geq, fb_add, fb_sub, fb_eqlI, fb_neqI, Nat.reduceLT, Nat.reduceAdd, Nat.reduceEqDiff, if_true, if_false, reduceIte, true_and, and_true, Option.getD_some, List.getElem?_toArray, List.getElem?_cons_succ, List.getElem?_cons_zero, Option.bind_some, List.nil_append, List.append_nil, beq_self_eq_true, Bool.false_eq_true, Bool.true_eq_false, decide_true, decide_false, Bool.not_true, Bool.not_false, Bool.false_beq, Bool.true_beq, Option.toList, List.head?_cons, List.head?_nil, app22, ld3, ld2, ld22, fa43_0, fa43_1, fa43_2, fa43_3, fa28_0, fa28_1, fa28_2, cellO_box, oExtract, get_put, put_next, get_newBox, newBox_next, lit22_1, lit22_0, AV.noTup, Try.f14, h]
set_option maxHeartbeats 4000000 in
theorem most_w (S : St) (q r room first count most : Nat) (h : S.mem.get q = some (.box (QB r room first count most))) :
    WC E1 16 [.ptr q 0] S (fun x => x = .ret (.v (.int .i64 (most : Int))) S) := by
  refine WC_fn Try.f16 (by kernel_rfl) (by kernel_rfl) (by kernel_rfl) (show (_ : Nat) ≤ _ from by show (_ : Nat) ≤ _; simp [Try.f16]) ?_
  unfold QB at h
  simp only [thenW_normal, thenW_exit, thenW_ret, thenW_pan, W_skip, W_region, W_drawn, W_seq, W_cond, W_block, W_loop, W_exit, W_ret, seqQ_normal2, seqQ_exit2, seqQ_ret2, seqQ_pan2, blockW_normal2, blockW_ret2, blockW_pan2, blockW_exit2, WL_nil2, WL_cons, execL_no, execL_val2, execL_skip2, execL_enter2, execL_pan2, putL_none2, putL_some2, retL_ret2, retL_pan2, condW_t2, condW_f2, WR_nil2, WR_op, WR_re2, execR_no, execR_val2, execR_skip2, execR_enter2, putRW_none2, putRW_some2, retRW_ret2, fixQ_normal2, wantedA, exec1, evalO, initT, T.get_set, T.get_leaf, callA, mapO, ofOpt, ofOptS, ofConst, e1_P, e1_G, partsA, neNil3, neNil2, finW_ret, finW_pan, giveW, resultsA, tupA, fb_lss, fb_leq, fb_gtr, fb_geq, fb_add, fb_sub, fb_eqlI, fb_neqI, Nat.reduceLT, Nat.reduceAdd, Nat.reduceEqDiff, if_true, if_false, reduceIte, true_and, and_true, Option.getD_some, List.getElem?_toArray, List.getElem?_cons_succ, List.getElem?_cons_zero, Option.bind_some, List.nil_append, List.append_nil, beq_self_eq_true, Bool.false_eq_true, Bool.true_eq_false, decide_true, decide_false, Bool.not_true, Bool.not_false, Bool.false_beq, Bool.true_beq, Option.toList, List.head?_cons, List.head?_nil, app22, ld3, ld2, ld22, fa43_0, fa43_1, fa43_2, fa43_3, fa28_0, fa28_1, fa28_2, cellO_box, oExtract, get_put, put_next, get_newBox, newBox_next, lit22_1, lit22_0, AV.noTup, Try.f16, h]
set_option maxHeartbeats 4000000 in
theorem room_w (S : St) (q r room first count most : Nat) (h : S.mem.get q = some (.box (QB r room first count most))) :
    WC E1 15 [.ptr q 0] S (fun x => x = .ret (.v (.int .i64 (room : Int))) S) := by
  refine WC_fn Try.f15 (by kernel_rfl) (by kernel_rfl) (by kernel_rfl) (show (_ : Nat) ≤ _ from by show (_ : Nat) ≤ _; simp [Try.f15]) ?_
  have hl := fun S => lenBs S r 0 room 1
  unfold QB at h
  simp only [thenW_normal, thenW_exit, thenW_ret, thenW_pan, W_skip, W_region, W_drawn, W_seq, W_cond, W_block, W_loop, W_exit, W_ret, seqQ_normal2, seqQ_exit2, seqQ_ret2, seqQ_pan2, blockW_normal2, blockW_ret2, blockW_pan2, blockW_exit2, WL_nil2, WL_cons, execL_no, execL_val2, execL_skip2, execL_enter2, execL_pan2, putL_none2, putL_some2, retL_ret2, retL_pan2, condW_t2, condW_f2, WR_nil2, WR_op, WR_re2, execR_no, execR_val2, execR_skip2, execR_enter2, putRW_none2, putRW_some2, retRW_ret2, fixQ_normal2, wantedA, exec1, evalO, initT, T.get_set, T.get_leaf, callA, mapO, ofOpt, ofOptS, ofConst, e1_P, e1_G, partsA, neNil3, neNil2, finW_ret, finW_pan, giveW, resultsA, tupA, fb_lss, fb_leq, fb_gtr, fb_geq, fb_add, fb_sub, fb_eqlI, fb_neqI, Nat.reduceLT, Nat.reduceAdd, Nat.reduceEqDiff, if_true, if_false, reduceIte, true_and, and_true, Option.getD_some, List.getElem?_toArray, List.getElem?_cons_succ, List.getElem?_cons_zero, Option.bind_some, List.nil_append, List.append_nil, beq_self_eq_true, Bool.false_eq_true, Bool.true_eq_false, decide_true, decide_false, Bool.not_true, Bool.not_false, Bool.false_beq, Bool.true_beq, Option.toList, List.head?_cons, List.head?_nil, app22, ld3, ld2, ld22, fa43_0, fa43_1, fa43_2, fa43_3, fa28_0, fa28_1, fa28_2, cellO_box, oExtract, get_put, put_next, get_newBox, newBox_next, lit22_1, lit22_0, AV.noTup, Try.f15, h, hl]
/-- A queue that holds a list. -/
structure QAt (S : St) (q r room first most : Nat) (cs : List AV) (L : List Int) : Prop where
  ne : q ≠ r
  hq : S.mem.get q = some (.box (QB r room first L.length most))
  hr : S.mem.get r = some (.box cs)
  len : cs.length = room
  fst : first < room
  fits : L.length ≤ room
  small : room ≤ 1000
  mst : most ≤ 1000
  q2 : q < S.next
  r2 : r < S.next
  at_ : ∀ i (h : i < L.length), cs[(first + i) % room]? = some (i64A L[i])
theorem QAt.keep {S S' : St} {q r room first most : Nat} {cs : List AV} {L : List Int} (h : QAt S q r room first most cs L) (k : KeepB S S') : QAt S' q r room first most cs L :=
  ⟨h.ne, k.2 _ _ h.q2 h.hq, k.2 _ _ h.r2 h.hr, h.len, h.fst, h.fits, h.small, h.mst, Nat.lt_of_lt_of_le h.q2 k.1, Nat.lt_of_lt_of_le h.r2 k.1, h.at_⟩
/-- All but the queue's own is as it was. -/
def Only (q r : Nat) (S S' : St) : Prop := S'.next = S.next ∧ ∀ id, id ≠ q → id ≠ r → S'.mem.get id = S.mem.get id
theorem mod_ne {f i j n : Nat} (hi : i < n) (hj : j < n) (h : i ≠ j) : (f + i) % n ≠ (f + j) % n := by
  intro e
  have h1 := Nat.div_add_mod (f + i) n
  have h2 := Nat.div_add_mod (f + j) n
  rw [e] at h1
  rcases Nat.lt_trichotomy ((f + i) / n) ((f + j) / n) with hd | hd | hd
  · have := Nat.mul_le_mul_left n (show (f + i) / n + 1 ≤ (f + j) / n from hd)
    rw [Nat.mul_add, Nat.mul_one] at this; omega
  · rw [hd] at h1; omega
  · have := Nat.mul_le_mul_left n (show (f + j) / n + 1 ≤ (f + i) / n from hd)
    rw [Nat.mul_add, Nat.mul_one] at this; omega
set_option maxHeartbeats 8000000 in
theorem put_no (S : St) (q r room first most : Nat) (cs : List AV) (L : List Int) (v : Int) (h : QAt S q r room first most cs L) (hl : L.length = room) :
    WC E1 9 [.ptr q 0, .v (.int .i64 v)] S (fun x => x = .ret (.v (.bool false)) S) := by
  refine WC_fn Try.f9 (by kernel_rfl) (by kernel_rfl) (by kernel_rfl) (show (_ : Nat) ≤ _ from by show (_ : Nat) ≤ _; simp [Try.f9]) ?_
  have hq := h.hq
  unfold QB at hq
  have hlen := fun S => lenBs S r 0 room 1
  have e1 : ((L.length : Int) == (room : Int)) = true := by simp [hl]
  simp only [thenW_normal, thenW_exit, thenW_ret, thenW_pan, W_skip, W_region, W_drawn, W_seq, W_cond, W_block, W_loop, W_exit, W_ret, seqQ_normal2, seqQ_exit2, seqQ_ret2, seqQ_pan2, blockW_normal2, blockW_ret2, blockW_pan2, blockW_exit2, WL_nil2, WL_cons, execL_no, execL_val2, execL_skip2, execL_enter2, execL_pan2, putL_none2, putL_some2, retL_ret2, retL_pan2, condW_t2, condW_f2, WR_nil2, WR_op, WR_re2, execR_no, execR_val2, execR_skip2, execR_enter2, putRW_none2, putRW_some2, retRW_ret2, fixQ_normal2, wantedA, exec1, evalO, initT, T.get_set, T.get_leaf, callA, mapO, ofOpt, ofOptS, ofConst, e1_P, e1_G, partsA, neNil3, neNil2, finW_ret, finW_pan, giveW, resultsA, tupA, fb_lss, fb_leq, fb_gtr, fb_geq, fb_add, fb_sub, fb_eqlI, fb_neqI, Nat.reduceLT, Nat.reduceAdd, Nat.reduceEqDiff, if_true, if_false, reduceIte, true_and, and_true, Option.getD_some, List.getElem?_toArray, List.getElem?_cons_succ, List.getElem?_cons_zero, Option.bind_some, List.nil_append, List.append_nil, beq_self_eq_true, Bool.false_eq_true, Bool.true_eq_false, decide_true, decide_false, Bool.not_true, Bool.not_false, Bool.false_beq, Bool.true_beq, Option.toList, List.head?_cons, List.head?_nil, app22, ld3, ld2, ld22, fa43_0, fa43_1, fa43_2, fa43_3, fa28_0, fa28_1, fa28_2, cellO_box, oExtract, get_put, put_next, get_newBox, newBox_next, lit22_1, lit22_0, AV.noTup, Try.f9]
  refine WD_by [(0, true), (1, true), (2, true), (3, true), (4, true), (5, true), (6, true), (7, true), (8, true), (9, true)] (by kernel_rfl) (by kernel_rfl) ?_
  simp only [thenW_normal, thenW_exit, thenW_ret, thenW_pan, W_skip, W_region, W_drawn, W_seq, W_cond, W_block, W_loop, W_exit, W_ret, seqQ_normal2, seqQ_exit2, seqQ_ret2, seqQ_pan2, blockW_normal2, blockW_ret2, blockW_pan2, blockW_exit2, WL_nil2, WL_cons, execL_no, execL_val2, execL_skip2, execL_enter2, execL_pan2, putL_none2, putL_some2, retL_ret2, retL_pan2, condW_t2, condW_f2, WR_nil2, WR_op, WR_re2, execR_no, execR_val2, execR_skip2, execR_enter2, putRW_none2, putRW_some2, retRW_ret2, fixQ_normal2, wantedA, exec1, evalO, initT, T.get_set, T.get_leaf, callA, mapO, ofOpt, ofOptS, ofConst, e1_P, e1_G, partsA, neNil3, neNil2, finW_ret, finW_pan, giveW, resultsA, tupA, fb_lss, fb_leq, fb_gtr, fb_geq, fb_add, fb_sub, fb_eqlI, fb_neqI, Nat.reduceLT, Nat.reduceAdd, Nat.reduceEqDiff, if_true, if_false, reduceIte, true_and, and_true, Option.getD_some, List.getElem?_toArray, List.getElem?_cons_succ, List.getElem?_cons_zero, Option.bind_some, List.nil_append, List.append_nil, beq_self_eq_true, Bool.false_eq_true, Bool.true_eq_false, decide_true, decide_false, Bool.not_true, Bool.not_false, Bool.false_beq, Bool.true_beq, Option.toList, List.head?_cons, List.head?_nil, app22, ld3, ld2, ld22, fa43_0, fa43_1, fa43_2, fa43_3, fa28_0, fa28_1, fa28_2, cellO_box, oExtract, get_put, put_next, get_newBox, newBox_next, lit22_1, lit22_0, AV.noTup, Try.f9, rsOf, againO, lookV, beqA_row, beqA_int, beqA_ptr, beqA_bs, hq, hlen, e1]
set_option maxHeartbeats 8000000 in
theorem put_yes (S : St) (q r room first most : Nat) (cs : List AV) (L : List Int) (v : Int) (h : QAt S q r room first most cs L) (hl : L.length ≠ room) :
    WC E1 9 [.ptr q 0, .v (.int .i64 v)] S (fun x => ∃ S', x = .ret (.v (.bool true)) S' ∧ QAt S' q r room first (max most (L.length + 1)) (cs.set ((first + L.length) % room) (i64A v)) (L ++ [v]) ∧ Only q r S S') := by
  refine WC_fn Try.f9 (by kernel_rfl) (by kernel_rfl) (by kernel_rfl) (show (_ : Nat) ≤ _ from by show (_ : Nat) ≤ _; simp [Try.f9]) ?_
  obtain ⟨fn1, hf1⟩ := fnOk17
  have hq := h.hq
  have hr0 := h.hr
  have hfit := h.fits
  have hsm := h.small
  have hfi := h.fst
  have hmo := h.mst
  have hne := h.ne
  have hlen := fun S => lenBs S r 0 room 1
  have e1 : ((L.length : Int) == (room : Int)) = false := by simp; omega
  obtain ⟨at1, hat⟩ : ∃ k, k = (first + L.length) % room := ⟨_, rfl⟩
  have hat2 : at1 < room := by rw [hat]; exact Nat.mod_lt _ (by omega)
  have hix := ixBs r 0 room at1 hat2
  rw [Nat.zero_add] at hix
  have hst := store1 s2 S r at1 (.v (.int .i64 v)) cs rfl hr0 (by rw [h.len]; exact hat2)
  generalize hS1 : S.put r (cs.set at1 (.v (.int .i64 v))) = S1 at hst
  have hq1 : S1.mem.get q = some (.box (QB r room first L.length most)) := by rw [← hS1, get_put, if_neg hne]; exact hq
  have hr1 : S1.mem.get r = some (.box (cs.set at1 (.v (.int .i64 v)))) := by rw [← hS1, get_put, if_pos rfl]
  have hpl := place_w S q r room first L.length most L.length hq (by omega) (by omega) (by omega)
  rw [← hat] at hpl
  have hwr := wrap_one (i := L.length) (by omega)
  have hs2 := store1 s3 S1 q 2 (.v (.int .i64 ((L.length + 1 : Nat) : Int))) (QB r room first L.length most) rfl hq1 (by show 2 < 4; decide)
  generalize hS2 : S1.put q ((QB r room first L.length most).set 2 (.v (.int .i64 ((L.length + 1 : Nat) : Int)))) = S2 at hs2
  have hq2 : S2.mem.get q = some (.box (QB r room first (L.length + 1) most)) := by rw [← hS2, get_put, if_pos rfl]; rfl
  have hr2 : S2.mem.get r = some (.box (cs.set at1 (.v (.int .i64 v)))) := by rw [← hS2, get_put, if_neg hne.symm]; exact hr1
  have hmx : (if ((L.length + 1 : Nat) : Int) > (most : Int) then ((L.length + 1 : Nat) : Int) else (most : Int)) = ((max most (L.length + 1) : Nat) : Int) := by
    split <;> omega
  have hs3 := store1 s3 S2 q 3 (.v (.int .i64 ((max most (L.length + 1) : Nat) : Int))) (QB r room first (L.length + 1) most) rfl hq2 (by show 3 < 4; decide)
  generalize hS3 : S2.put q ((QB r room first (L.length + 1) most).set 3 (.v (.int .i64 ((max most (L.length + 1) : Nat) : Int)))) = S3 at hs3
  have hq3 : S3.mem.get q = some (.box (QB r room first (L.length + 1) (max most (L.length + 1)))) := by rw [← hS3, get_put, if_pos rfl]; rfl
  have hr3 : S3.mem.get r = some (.box (cs.set at1 (.v (.int .i64 v)))) := by rw [← hS3, get_put, if_neg hne.symm]; exact hr2
  have done : QAt S3 q r room first (max most (L.length + 1)) (cs.set at1 (i64A v)) (L ++ [v]) ∧ Only q r S S3 := by
    refine ⟨⟨hne, by rw [List.length_append]; exact hq3, hr3, by rw [List.length_set]; exact h.len, hfi, by rw [List.length_append]; simp; omega, hsm, by omega, ?_, ?_, fun i hi => ?_⟩, ?_, fun id h1 h2 => ?_⟩
    · rw [← hS3, ← hS2, ← hS1]; exact h.q2
    · rw [← hS3, ← hS2, ← hS1]; exact h.r2
    · rw [List.length_append, List.length_singleton] at hi
      by_cases hil : i < L.length
      · rw [List.getElem_append_left hil, ← h.at_ i hil, List.getElem?_set_ne]
        rw [hat]; exact (mod_ne (by omega) (by omega) (by omega))
      · have : i = L.length := by omega
        subst this
        rw [List.getElem_append_right (Nat.le_refl _), ← hat, List.getElem?_set_self (by rw [h.len]; exact hat2)]
        simp
    · rw [← hS3, ← hS2, ← hS1]; rfl
    · rw [← hS3, get_put, if_neg h1, ← hS2, get_put, if_neg h1, ← hS1, get_put, if_neg h2]
  rw [← hat]
  unfold QB at hq hq1 hq2
  simp only [thenW_normal, thenW_exit, thenW_ret, thenW_pan, W_skip, W_region, W_drawn, W_seq, W_cond, W_block, W_loop, W_exit, W_ret, seqQ_normal2, seqQ_exit2, seqQ_ret2, seqQ_pan2, blockW_normal2, blockW_ret2, blockW_pan2, blockW_exit2, WL_nil2, WL_cons, execL_no, execL_val2, execL_skip2, execL_enter2, execL_pan2, putL_none2, putL_some2, retL_ret2, retL_pan2, condW_t2, condW_f2, WR_nil2, WR_op, WR_re2, execR_no, execR_val2, execR_skip2, execR_enter2, putRW_none2, putRW_some2, retRW_ret2, fixQ_normal2, wantedA, exec1, evalO, initT, T.get_set, T.get_leaf, callA, mapO, ofOpt, ofOptS, ofConst, e1_P, e1_G, partsA, neNil3, neNil2, finW_ret, finW_pan, giveW, resultsA, tupA, fb_lss, fb_leq, fb_gtr, fb_geq, fb_add, fb_sub, fb_eqlI, fb_neqI, Nat.reduceLT, Nat.reduceAdd, Nat.reduceEqDiff, if_true, if_false, reduceIte, true_and, and_true, Option.getD_some, List.getElem?_toArray, List.getElem?_cons_succ, List.getElem?_cons_zero, Option.bind_some, List.nil_append, List.append_nil, beq_self_eq_true, Bool.false_eq_true, Bool.true_eq_false, decide_true, decide_false, Bool.not_true, Bool.not_false, Bool.false_beq, Bool.true_beq, Option.toList, List.head?_cons, List.head?_nil, app22, ld3, ld2, ld22, fa43_0, fa43_1, fa43_2, fa43_3, fa28_0, fa28_1, fa28_2, cellO_box, oExtract, get_put, put_next, get_newBox, newBox_next, lit22_1, lit22_0, AV.noTup, Try.f9]
  refine WD_by [(0, true), (1, true), (2, true), (3, true), (4, true), (5, true), (6, true), (7, true), (8, true), (9, true)] (by kernel_rfl) (by kernel_rfl) ?_
  simp only [thenW_normal, thenW_exit, thenW_ret, thenW_pan, W_skip, W_region, W_drawn, W_seq, W_cond, W_block, W_loop, W_exit, W_ret, seqQ_normal2, seqQ_exit2, seqQ_ret2, seqQ_pan2, blockW_normal2, blockW_ret2, blockW_pan2, blockW_exit2, WL_nil2, WL_cons, execL_no, execL_val2, execL_skip2, execL_enter2, execL_pan2, putL_none2, putL_some2, retL_ret2, retL_pan2, condW_t2, condW_f2, WR_nil2, WR_op, WR_re2, execR_no, execR_val2, execR_skip2, execR_enter2, putRW_none2, putRW_some2, retRW_ret2, fixQ_normal2, wantedA, exec1, evalO, initT, T.get_set, T.get_leaf, callA, mapO, ofOpt, ofOptS, ofConst, e1_P, e1_G, partsA, neNil3, neNil2, finW_ret, finW_pan, giveW, resultsA, tupA, fb_lss, fb_leq, fb_gtr, fb_geq, fb_add, fb_sub, fb_eqlI, fb_neqI, Nat.reduceLT, Nat.reduceAdd, Nat.reduceEqDiff, if_true, if_false, reduceIte, true_and, and_true, Option.getD_some, List.getElem?_toArray, List.getElem?_cons_succ, List.getElem?_cons_zero, Option.bind_some, List.nil_append, List.append_nil, beq_self_eq_true, Bool.false_eq_true, Bool.true_eq_false, decide_true, decide_false, Bool.not_true, Bool.not_false, Bool.false_beq, Bool.true_beq, Option.toList, List.head?_cons, List.head?_nil, app22, ld3, ld2, ld22, fa43_0, fa43_1, fa43_2, fa43_3, fa28_0, fa28_1, fa28_2, cellO_box, oExtract, get_put, put_next, get_newBox, newBox_next, lit22_1, lit22_0, AV.noTup, Try.f9, rsOf, againO, lookV, beqA_row, beqA_int, beqA_ptr, beqA_bs, hq, hlen, e1]
  refine WD_by [(0, true), (1, true), (2, true), (3, true), (4, true), (5, true), (6, true), (7, true), (8, true), (10, true), (9, true), (3, false), (11, true), (12, true)] (by kernel_rfl) (by kernel_rfl) ?_
  simp only [thenW_normal, thenW_exit, thenW_ret, thenW_pan, W_skip, W_region, W_drawn, W_seq, W_cond, W_block, W_loop, W_exit, W_ret, seqQ_normal2, seqQ_exit2, seqQ_ret2, seqQ_pan2, blockW_normal2, blockW_ret2, blockW_pan2, blockW_exit2, WL_nil2, WL_cons, execL_no, execL_val2, execL_skip2, execL_enter2, execL_pan2, putL_none2, putL_some2, retL_ret2, retL_pan2, condW_t2, condW_f2, WR_nil2, WR_op, WR_re2, execR_no, execR_val2, execR_skip2, execR_enter2, putRW_none2, putRW_some2, retRW_ret2, fixQ_normal2, wantedA, exec1, evalO, initT, T.get_set, T.get_leaf, callA, mapO, ofOpt, ofOptS, ofConst, e1_P, e1_G, partsA, neNil3, neNil2, finW_ret, finW_pan, giveW, resultsA, tupA, fb_lss, fb_leq, fb_gtr, fb_geq, fb_add, fb_sub, fb_eqlI, fb_neqI, Nat.reduceLT, Nat.reduceAdd, Nat.reduceEqDiff, if_true, if_false, reduceIte, true_and, and_true, Option.getD_some, List.getElem?_toArray, List.getElem?_cons_succ, List.getElem?_cons_zero, Option.bind_some, List.nil_append, List.append_nil, beq_self_eq_true, Bool.false_eq_true, Bool.true_eq_false, decide_true, decide_false, Bool.not_true, Bool.not_false, Bool.false_beq, Bool.true_beq, Option.toList, List.head?_cons, List.head?_nil, app22, ld3, ld2, ld22, fa43_0, fa43_1, fa43_2, fa43_3, fa28_0, fa28_1, fa28_2, cellO_box, oExtract, get_put, put_next, get_newBox, newBox_next, lit22_1, lit22_0, AV.noTup, Try.f9, rsOf, againO, lookV, beqA_row, beqA_int, beqA_ptr, beqA_bs, hq, hf1]
  refine WC.mono hpl ?_
  rintro _ rfl
  simp only [thenW_normal, thenW_exit, thenW_ret, thenW_pan, W_skip, W_region, W_drawn, W_seq, W_cond, W_block, W_loop, W_exit, W_ret, seqQ_normal2, seqQ_exit2, seqQ_ret2, seqQ_pan2, blockW_normal2, blockW_ret2, blockW_pan2, blockW_exit2, WL_nil2, WL_cons, execL_no, execL_val2, execL_skip2, execL_enter2, execL_pan2, putL_none2, putL_some2, retL_ret2, retL_pan2, condW_t2, condW_f2, WR_nil2, WR_op, WR_re2, execR_no, execR_val2, execR_skip2, execR_enter2, putRW_none2, putRW_some2, retRW_ret2, fixQ_normal2, wantedA, exec1, evalO, initT, T.get_set, T.get_leaf, callA, mapO, ofOpt, ofOptS, ofConst, e1_P, e1_G, partsA, neNil3, neNil2, finW_ret, finW_pan, giveW, resultsA, tupA, fb_lss, fb_leq, fb_gtr, fb_geq, fb_add, fb_sub, fb_eqlI, fb_neqI, Nat.reduceLT, Nat.reduceAdd, Nat.reduceEqDiff, if_true, if_false, reduceIte, true_and, and_true, Option.getD_some, List.getElem?_toArray, List.getElem?_cons_succ, List.getElem?_cons_zero, Option.bind_some, List.nil_append, List.append_nil, beq_self_eq_true, Bool.false_eq_true, Bool.true_eq_false, decide_true, decide_false, Bool.not_true, Bool.not_false, Bool.false_beq, Bool.true_beq, Option.toList, List.head?_cons, List.head?_nil, app22, ld3, ld2, ld22, fa43_0, fa43_1, fa43_2, fa43_3, fa28_0, fa28_1, fa28_2, cellO_box, oExtract, get_put, put_next, get_newBox, newBox_next, lit22_1, lit22_0, AV.noTup, Try.f9, rsOf, againO, lookV, beqA_row, beqA_int, beqA_ptr, beqA_bs, hq, hix, hst, hq1, hwr, hs2]
  refine WD_by [(0, true), (1, true), (2, true), (3, true), (4, true), (5, true), (6, true), (7, true), (8, true), (9, true), (10, true), (11, true), (12, true)] (by kernel_rfl) (by kernel_rfl) ?_
  simp only [thenW_normal, thenW_exit, thenW_ret, thenW_pan, W_skip, W_region, W_drawn, W_seq, W_cond, W_block, W_loop, W_exit, W_ret, seqQ_normal2, seqQ_exit2, seqQ_ret2, seqQ_pan2, blockW_normal2, blockW_ret2, blockW_pan2, blockW_exit2, WL_nil2, WL_cons, execL_no, execL_val2, execL_skip2, execL_enter2, execL_pan2, putL_none2, putL_some2, retL_ret2, retL_pan2, condW_t2, condW_f2, WR_nil2, WR_op, WR_re2, execR_no, execR_val2, execR_skip2, execR_enter2, putRW_none2, putRW_some2, retRW_ret2, fixQ_normal2, wantedA, exec1, evalO, initT, T.get_set, T.get_leaf, callA, mapO, ofOpt, ofOptS, ofConst, e1_P, e1_G, partsA, neNil3, neNil2, finW_ret, finW_pan, giveW, resultsA, tupA, fb_lss, fb_leq, fb_gtr, fb_geq, fb_add, fb_sub, fb_eqlI, fb_neqI, Nat.reduceLT, Nat.reduceAdd, Nat.reduceEqDiff, if_true, if_false, reduceIte, true_and, and_true, Option.getD_some, List.getElem?_toArray, List.getElem?_cons_succ, List.getElem?_cons_zero, Option.bind_some, List.nil_append, List.append_nil, beq_self_eq_true, Bool.false_eq_true, Bool.true_eq_false, decide_true, decide_false, Bool.not_true, Bool.not_false, Bool.false_beq, Bool.true_beq, Option.toList, List.head?_cons, List.head?_nil, app22, ld3, ld2, ld22, fa43_0, fa43_1, fa43_2, fa43_3, fa28_0, fa28_1, fa28_2, cellO_box, oExtract, get_put, put_next, get_newBox, newBox_next, lit22_1, lit22_0, AV.noTup, Try.f9, rsOf, againO, lookV, beqA_row, beqA_int, beqA_ptr, beqA_bs, hq2, gMax, gMaxO_i, hmx, hs3]
  exact ⟨S3, rfl, done⟩
set_option maxHeartbeats 8000000 in
theorem take_no (S : St) (q r room first most : Nat) (cs : List AV) (h : QAt S q r room first most cs []) :
    WC E1 11 [.ptr q 0] S (fun x => x = .ret (.tup [.v (.int .i64 0), .v (.bool false)]) S) := by
  refine WC_fn Try.f11 (by kernel_rfl) (by kernel_rfl) (by kernel_rfl) (show (_ : Nat) ≤ _ from by show (_ : Nat) ≤ _; simp [Try.f11]) ?_
  have hq := h.hq
  unfold QB at hq
  have e1 : (((([] : List Int).length : Nat) : Int) == 0) = true := rfl
  simp only [thenW_normal, thenW_exit, thenW_ret, thenW_pan, W_skip, W_region, W_drawn, W_seq, W_cond, W_block, W_loop, W_exit, W_ret, seqQ_normal2, seqQ_exit2, seqQ_ret2, seqQ_pan2, blockW_normal2, blockW_ret2, blockW_pan2, blockW_exit2, WL_nil2, WL_cons, execL_no, execL_val2, execL_skip2, execL_enter2, execL_pan2, putL_none2, putL_some2, retL_ret2, retL_pan2, condW_t2, condW_f2, WR_nil2, WR_op, WR_re2, execR_no, execR_val2, execR_skip2, execR_enter2, putRW_none2, putRW_some2, retRW_ret2, fixQ_normal2, wantedA, exec1, evalO, initT, T.get_set, T.get_leaf, callA, mapO, ofOpt, ofOptS, ofConst, e1_P, e1_G, partsA, neNil3, neNil2, finW_ret, finW_pan, giveW, resultsA, tupA, fb_lss, fb_leq, fb_gtr, fb_geq, fb_add, fb_sub, fb_eqlI, fb_neqI, Nat.reduceLT, Nat.reduceAdd, Nat.reduceEqDiff, if_true, if_false, reduceIte, true_and, and_true, Option.getD_some, List.getElem?_toArray, List.getElem?_cons_succ, List.getElem?_cons_zero, Option.bind_some, List.nil_append, List.append_nil, beq_self_eq_true, Bool.false_eq_true, Bool.true_eq_false, decide_true, decide_false, Bool.not_true, Bool.not_false, Bool.false_beq, Bool.true_beq, Option.toList, List.head?_cons, List.head?_nil, app22, ld3, ld2, ld22, fa43_0, fa43_1, fa43_2, fa43_3, fa28_0, fa28_1, fa28_2, cellO_box, oExtract, get_put, put_next, get_newBox, newBox_next, lit22_1, lit22_0, AV.noTup, Try.f11, hq, e1]
set_option maxHeartbeats 8000000 in
theorem take_yes (S : St) (q r room first most : Nat) (cs : List AV) (v : Int) (L : List Int) (h : QAt S q r room first most cs (v :: L)) :
    WC E1 11 [.ptr q 0] S (fun x => ∃ S', x = .ret (.tup [.v (.int .i64 v), .v (.bool true)]) S' ∧ QAt S' q r room ((first + 1) % room) most cs L ∧ Only q r S S') := by
  refine WC_fn Try.f11 (by kernel_rfl) (by kernel_rfl) (by kernel_rfl) (show (_ : Nat) ≤ _ from by show (_ : Nat) ≤ _; simp [Try.f11]) ?_
  obtain ⟨fn1, hf1⟩ := fnOk17
  have hq := h.hq
  have hr0 := h.hr
  have hfit := h.fits
  have hsm := h.small
  have hfi := h.fst
  have hne := h.ne
  have e1 : ((((v :: L).length : Nat) : Int) == 0) = false := by simp; omega
  have h0 := h.at_ 0 (by simp)
  rw [Nat.add_zero, Nat.mod_eq_of_lt hfi] at h0
  have h0 : cs[first]? = some (.v (.int .i64 v)) := h0
  have hix := ixBs r 0 room first hfi
  rw [Nat.zero_add] at hix
  have hpl := place_w S q r room first (v :: L).length most 1 hq (by omega) (by omega) (by omega)
  have hpl : WC E1 17 [.ptr q 0, .v (.int .i64 1)] S (fun x => x = .ret (.v (.int .i64 (((first + 1) % room : Nat) : Int))) S) := hpl
  have hs1 := store1 s3 S q 1 (.v (.int .i64 (((first + 1) % room : Nat) : Int))) _ rfl hq (by show 1 < 4; decide)
  generalize hS1 : S.put q ((QB r room first (v :: L).length most).set 1 (.v (.int .i64 (((first + 1) % room : Nat) : Int)))) = S1 at hs1
  have hq1 : S1.mem.get q = some (.box (QB r room ((first + 1) % room) (v :: L).length most)) := by rw [← hS1, get_put, if_pos rfl]; rfl
  have hr1 : S1.mem.get r = some (.box cs) := by rw [← hS1, get_put, if_neg hne.symm]; exact hr0
  have hwr : IntKind.i64.wrap ((((v :: L).length : Nat) : Int) - 1) = (L.length : Int) := wrap_pred (i := L.length) (by simp at hfit; omega)
  have hs2 := store1 s3 S1 q 2 (.v (.int .i64 (L.length : Int))) _ rfl hq1 (by show 2 < 4; decide)
  generalize hS2 : S1.put q ((QB r room ((first + 1) % room) (v :: L).length most).set 2 (.v (.int .i64 (L.length : Int)))) = S2 at hs2
  have hq2 : S2.mem.get q = some (.box (QB r room ((first + 1) % room) L.length most)) := by rw [← hS2, get_put, if_pos rfl]; rfl
  have hr2 : S2.mem.get r = some (.box cs) := by rw [← hS2, get_put, if_neg hne.symm]; exact hr1
  have done : QAt S2 q r room ((first + 1) % room) most cs L ∧ Only q r S S2 := by
    refine ⟨⟨hne, hq2, hr2, h.len, Nat.mod_lt _ (by omega), by simp at hfit; omega, hsm, h.mst, ?_, ?_, fun i hi => ?_⟩, ?_, fun id h1 h2 => ?_⟩
    · rw [← hS2, ← hS1]; exact h.q2
    · rw [← hS2, ← hS1]; exact h.r2
    · have := h.at_ (i + 1) (by simp; omega)
      rw [List.getElem_cons_succ] at this
      rw [← this, Nat.mod_add_mod, show first + 1 + i = first + (i + 1) by omega]
    · rw [← hS2, ← hS1]; rfl
    · rw [← hS2, get_put, if_neg h1, ← hS1, get_put, if_neg h1]
  unfold QB at hq hq1
  simp only [thenW_normal, thenW_exit, thenW_ret, thenW_pan, W_skip, W_region, W_drawn, W_seq, W_cond, W_block, W_loop, W_exit, W_ret, seqQ_normal2, seqQ_exit2, seqQ_ret2, seqQ_pan2, blockW_normal2, blockW_ret2, blockW_pan2, blockW_exit2, WL_nil2, WL_cons, execL_no, execL_val2, execL_skip2, execL_enter2, execL_pan2, putL_none2, putL_some2, retL_ret2, retL_pan2, condW_t2, condW_f2, WR_nil2, WR_op, WR_re2, execR_no, execR_val2, execR_skip2, execR_enter2, putRW_none2, putRW_some2, retRW_ret2, fixQ_normal2, wantedA, exec1, evalO, initT, T.get_set, T.get_leaf, callA, mapO, ofOpt, ofOptS, ofConst, e1_P, e1_G, partsA, neNil3, neNil2, finW_ret, finW_pan, giveW, resultsA, tupA, fb_lss, fb_leq, fb_gtr, fb_geq, fb_add, fb_sub, fb_eqlI, fb_neqI, Nat.reduceLT, Nat.reduceAdd, Nat.reduceEqDiff, if_true, if_false, reduceIte, true_and, and_true, Option.getD_some, List.getElem?_toArray, List.getElem?_cons_succ, List.getElem?_cons_zero, Option.bind_some, List.nil_append, List.append_nil, beq_self_eq_true, Bool.false_eq_true, Bool.true_eq_false, decide_true, decide_false, Bool.not_true, Bool.not_false, Bool.false_beq, Bool.true_beq, Option.toList, List.head?_cons, List.head?_nil, app22, ld3, ld2, ld22, fa43_0, fa43_1, fa43_2, fa43_3, fa28_0, fa28_1, fa28_2, cellO_box, oExtract, get_put, put_next, get_newBox, newBox_next, lit22_1, lit22_0, AV.noTup, Try.f11, hq, e1]
  refine WD_by [(0, true), (1, true), (2, true), (3, true), (4, true), (5, true), (6, true), (7, true), (8, true), (9, true), (10, true)] (by kernel_rfl) (by kernel_rfl) ?_
  simp only [thenW_normal, thenW_exit, thenW_ret, thenW_pan, W_skip, W_region, W_drawn, W_seq, W_cond, W_block, W_loop, W_exit, W_ret, seqQ_normal2, seqQ_exit2, seqQ_ret2, seqQ_pan2, blockW_normal2, blockW_ret2, blockW_pan2, blockW_exit2, WL_nil2, WL_cons, execL_no, execL_val2, execL_skip2, execL_enter2, execL_pan2, putL_none2, putL_some2, retL_ret2, retL_pan2, condW_t2, condW_f2, WR_nil2, WR_op, WR_re2, execR_no, execR_val2, execR_skip2, execR_enter2, putRW_none2, putRW_some2, retRW_ret2, fixQ_normal2, wantedA, exec1, evalO, initT, T.get_set, T.get_leaf, callA, mapO, ofOpt, ofOptS, ofConst, e1_P, e1_G, partsA, neNil3, neNil2, finW_ret, finW_pan, giveW, resultsA, tupA, fb_lss, fb_leq, fb_gtr, fb_geq, fb_add, fb_sub, fb_eqlI, fb_neqI, Nat.reduceLT, Nat.reduceAdd, Nat.reduceEqDiff, if_true, if_false, reduceIte, true_and, and_true, Option.getD_some, List.getElem?_toArray, List.getElem?_cons_succ, List.getElem?_cons_zero, Option.bind_some, List.nil_append, List.append_nil, beq_self_eq_true, Bool.false_eq_true, Bool.true_eq_false, decide_true, decide_false, Bool.not_true, Bool.not_false, Bool.false_beq, Bool.true_beq, Option.toList, List.head?_cons, List.head?_nil, app22, ld3, ld2, ld22, fa43_0, fa43_1, fa43_2, fa43_3, fa28_0, fa28_1, fa28_2, cellO_box, oExtract, get_put, put_next, get_newBox, newBox_next, lit22_1, lit22_0, AV.noTup, Try.f11, rsOf, againO, lookV, beqA_row, beqA_int, beqA_ptr, beqA_bs, hq, hix, hr0, h0, hf1]
  refine WC.mono hpl ?_
  rintro _ rfl
  simp only [thenW_normal, thenW_exit, thenW_ret, thenW_pan, W_skip, W_region, W_drawn, W_seq, W_cond, W_block, W_loop, W_exit, W_ret, seqQ_normal2, seqQ_exit2, seqQ_ret2, seqQ_pan2, blockW_normal2, blockW_ret2, blockW_pan2, blockW_exit2, WL_nil2, WL_cons, execL_no, execL_val2, execL_skip2, execL_enter2, execL_pan2, putL_none2, putL_some2, retL_ret2, retL_pan2, condW_t2, condW_f2, WR_nil2, WR_op, WR_re2, execR_no, execR_val2, execR_skip2, execR_enter2, putRW_none2, putRW_some2, retRW_ret2, fixQ_normal2, wantedA, exec1, evalO, initT, T.get_set, T.get_leaf, callA, mapO, ofOpt, ofOptS, ofConst, e1_P, e1_G, partsA, neNil3, neNil2, finW_ret, finW_pan, giveW, resultsA, tupA, fb_lss, fb_leq, fb_gtr, fb_geq, fb_add, fb_sub, fb_eqlI, fb_neqI, Nat.reduceLT, Nat.reduceAdd, Nat.reduceEqDiff, if_true, if_false, reduceIte, true_and, and_true, Option.getD_some, List.getElem?_toArray, List.getElem?_cons_succ, List.getElem?_cons_zero, Option.bind_some, List.nil_append, List.append_nil, beq_self_eq_true, Bool.false_eq_true, Bool.true_eq_false, decide_true, decide_false, Bool.not_true, Bool.not_false, Bool.false_beq, Bool.true_beq, Option.toList, List.head?_cons, List.head?_nil, app22, ld3, ld2, ld22, fa43_0, fa43_1, fa43_2, fa43_3, fa28_0, fa28_1, fa28_2, cellO_box, oExtract, get_put, put_next, get_newBox, newBox_next, lit22_1, lit22_0, AV.noTup, Try.f11, rsOf, againO, lookV, beqA_row, beqA_int, beqA_ptr, beqA_bs, hs1, hq1, hwr, hs2]
  exact ⟨S2, rfl, done⟩
end Go.Ax
