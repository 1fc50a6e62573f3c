/-
  The same in the kernel's own words: it reckons so several times as fast.
-/
import Derived.Test.YtjgknelmjdallaaGreatDoorFcSc
noncomputable section
namespace Go.Ax
open Go.RowKit
set_option linter.unusedVariables false
set_option linter.unusedSimpArgs false
def evalR (G : Gl) (f : T AV) (x : Operand) : Option AV := Operand.rec (motive := fun _ => Option AV) (fun t => T.get f t) (fun v => ofConst 8 v) (fun g => Option.rec (motive := fun _ => Option AV) none (fun cs => some (.ep cs)) (G g)) (fun k => some (.fn (.func k) [] [])) x
theorem evalR_eq (G : Gl) (f : T AV) (x : Operand) : evalR G f x = evalO G f x := by
  cases x with
  | global g => show Option.rec (motive := fun _ => Option AV) none (fun cs => some (.ep cs)) (G g) = (match G g with | some cs => some (.ep cs) | none => none); cases G g <;> rfl
  | _ => rfl
def ooR (S : St) (x : Option AV) : OR := Option.rec (motive := fun _ => OR) .fail (fun a => .val a S) x
theorem ooR_eq (S : St) (x : Option AV) : ooR S x = ofOpt S x := by cases x <;> rfl
def partsR (G : Gl) (f : T AV) (l : List (Nat × Operand)) : Option (List (Nat × AV)) := List.rec (motive := fun _ => Option (List (Nat × AV))) (some []) (fun p _ ih => Option.rec (motive := fun _ => Option (List (Nat × AV))) none (fun a => Option.rec (motive := fun _ => Option (List (Nat × AV))) none (fun l => some ((p.1, a) :: l)) ih) (evalR G f p.2)) l
theorem partsR_eq (G : Gl) (f : T AV) : ∀ l, partsR G f l = partsA G f l
  | [] => rfl
  | (i, x) :: r => by
    have ih := partsR_eq G f r
    show Option.rec (motive := fun _ => Option (List (Nat × AV))) none (fun a => Option.rec (motive := fun _ => Option (List (Nat × AV))) none (fun l => some ((i, a) :: l)) (partsR G f r)) (evalR G f x) = partsA G f ((i, x) :: r)
    rw [ih, evalR_eq]
    show _ = (match evalO G f x with | some a => (match partsA G f r with | some l => some ((i, a) :: l) | none => none) | none => none)
    cases evalO G f x <;> cases partsA G f r <;> rfl
abbrev X1 := Env → T AV → St → Oper → OR
def xSlow : X1 := fun E f S o => exec1 E f S o
def xMove (x : Operand) : X1 := fun E f S o => ooR S (evalR E.G f x)
def xLoad (t : TypeId) (x : Operand) : X1 := fun E f S o => Option.rec (motive := fun _ => OR) .fail (fun a => ooR S (oLoad E.P S t a)) (evalR E.G f x)
def xStore (t : TypeId) (x y : Operand) : X1 := fun E f S o => Option.rec (motive := fun _ => OR) .fail (fun a => Option.rec (motive := fun _ => OR) .fail (fun b => Option.rec (motive := fun _ => OR) .fail (fun S' => .skip S') (oStore E.P S t a b)) (evalR E.G f y)) (evalR E.G f x)
def nilR (S : St) (a : AV) : OR := match a with
  | .ptr id off => .val (.ptr id off) S
  | .ep cs => .val (.ep cs) S
  | .fn (.func k) a b => .val (.fn (.func k) a b) S
  | .iface t a => .val (.iface t a) S
  | _ => .fail
theorem nilR_eq (S : St) (a : AV) : nilR S a = (match some a with
    | some (.ptr id off) => .val (.ptr id off) S
    | some (.ep cs) => .val (.ep cs) S
    | some (.fn (.func k) a b) => .val (.fn (.func k) a b) S
    | some (.iface t a) => .val (.iface t a) S
    | _ => .fail : OR) := by
  cases a <;> first | rfl | (rename_i fn x y; cases fn <;> rfl)
def xNil (x : Operand) : X1 := fun E f S o => Option.rec (motive := fun _ => OR) .fail (fun a => nilR S a) (evalR E.G f x)
def neqR (op : BinOp) (S : St) : OR := match op with
  | .eql => .val (.v (.bool false)) S
  | .neq => .val (.v (.bool true)) S
  | _ => .fail
def xBin (op : BinOp) (t : TypeId) (x y : Operand) (_ : TypeId) : X1 := fun E f S o => Option.rec (motive := fun _ => OR) .fail (fun a => Option.rec (motive := fun _ => OR) .fail (fun b => Option.rec (motive := fun _ => OR) (Bool.rec (motive := fun _ => OR) (eqOr E.P E.G f S o op t a b) (neqR op S) (neNil E.P t a b)) (fun r => .val r S) (fastBin op a b)) (evalR E.G f y)) (evalR E.G f x)
def xMakeI (t : TypeId) (x : Operand) : X1 := fun E f S o => Option.rec (motive := fun _ => OR) .fail (fun a => ooR S (oMakeI E.P t a)) (evalR E.G f x)
def xFieldAddr (t : TypeId) (x : Operand) (i : Nat) : X1 := fun E f S o => Option.rec (motive := fun _ => OR) .fail (fun a => ooR S (oFieldAddr E.P t a i)) (evalR E.G f x)
def xField (t : TypeId) (x : Operand) (i : Nat) : X1 := fun E f S o => Option.rec (motive := fun _ => OR) .fail (fun a => ooR S (oField E.P t a i)) (evalR E.G f x)
def xIndexAddr (t : TypeId) (x i : Operand) : X1 := fun E f S o => Option.rec (motive := fun _ => OR) .fail (fun a => Option.rec (motive := fun _ => OR) .fail (fun b => ooR S (oIndexAddr E.P t a b)) (evalR E.G f i)) (evalR E.G f x)
def xIndex (t : TypeId) (x i : Operand) : X1 := fun E f S o => Option.rec (motive := fun _ => OR) .fail (fun a => Option.rec (motive := fun _ => OR) .fail (fun b => Option.rec (motive := fun _ => OR) (ground E.P E.G f S o) (fun r => .val r S) (fastIndex E.P t a b)) (evalR E.G f i)) (evalR E.G f x)
def xLookup (t : TypeId) (m k : Operand) (ok : Bool) : X1 := fun E f S o => Option.rec (motive := fun _ => OR) .fail (fun a => Option.rec (motive := fun _ => OR) .fail (fun b => ooR S (oLookup E.P S t a b ok)) (evalR E.G f k)) (evalR E.G f m)
def xAssert (x : Operand) (_ t : TypeId) (ok : Bool) : X1 := fun E f S o => Option.rec (motive := fun _ => OR) .fail (fun a => ooR S (oAssert E.P t ok a)) (evalR E.G f x)
def xExtract (x : Operand) (i : Nat) : X1 := fun E f S o => Option.rec (motive := fun _ => OR) .fail (fun a => ooR S (oExtract a i)) (evalR E.G f x)
def xCall (c : Call) : X1 := fun E f S o => callA E f S c o
def pickR (a b : OR) (x : Option AV) : OR := match x with
  | some (.v (.bool true)) => a
  | some (.v (.bool false)) => b
  | _ => .fail
def mapR (G : Gl) (f : T AV) (l : List Operand) : Option (List AV) := List.rec (motive := fun _ => Option (List AV)) (some []) (fun x _ ih => Option.rec (motive := fun _ => Option (List AV)) none (fun a => Option.rec (motive := fun _ => Option (List AV)) none (fun l => some (a :: l)) ih) (evalR G f x)) l
theorem mapR_eq (G : Gl) (f : T AV) : ∀ l, mapR G f l = mapO (evalO G f) l
  | [] => rfl
  | x :: r => by
    have ih := mapR_eq G f r
    show Option.rec (motive := fun _ => Option (List AV)) none (fun a => Option.rec (motive := fun _ => Option (List AV)) none (fun l => some (a :: l)) (mapR G f r)) (evalR G f x) = _
    rw [ih, evalR_eq]
    simp only [mapO]
    cases evalO G f x <;> cases mapO (evalO G f) r <;> rfl
def sliceR (P : Program) (S : St) (t : TypeId) (a : AV) (l h : Option AV) : OR := match a with
  | .sl tok off sz es => ooR S (oSlice P t (.sl tok off sz es) l h)
  | .nils => ooR S (oSlice P t .nils l h)
  | .v s => ooR S (fastSlice P t (.v s) l h)
  | _ => .fail
def xSlice (t : TypeId) (x : Operand) (lo hi mx : Option Operand) : X1 := fun E f S o => Option.rec (motive := fun _ => OR) (Option.rec (motive := fun _ => OR) .fail (fun a => Option.rec (motive := fun _ => OR) .fail (fun l => Option.rec (motive := fun _ => OR) .fail (fun h => sliceR E.P S t a l.head? h.head?) (mapR E.G f hi.toList)) (mapR E.G f lo.toList)) (evalR E.G f x)) (fun _ => exec1 E f S o) mx
def xAlloc (t : TypeId) : X1 := fun E f S o => ofOptS (oAlloc E.P S t)
def xPick (c a b : Operand) : X1 := fun E f S o => pickR (ooR S (evalR E.G f a)) (ooR S (evalR E.G f b)) (evalR E.G f c)
def xUnOp (_ : UnOp) (_ : TypeId) (_ : Operand) : X1 := fun E f S o => ground E.P E.G f S o
def xConvert (src dst : TypeId) (x : Operand) : X1 := fun E f S o => Option.rec (motive := fun _ => OR) .fail (fun a => Option.rec (motive := fun _ => OR) (ground E.P E.G f S o) (fun r => .val r S) (oConvert E.P src dst a)) (evalR E.G f x)
def xBox (_ : TypeId) (x : Operand) : X1 := fun E f S o => Option.rec (motive := fun _ => OR) .fail (fun a => Bool.rec (motive := fun _ => OR) .fail (.val (.ptr S.next 0) (S.newBox a.cells)) a.noTup) (evalR E.G f x)
def panR (S : St) (x : Option AV) : OR := match x with
  | some (.iface t a) => .pan (.iface t a) S
  | _ => .fail
def xPanic (x : Operand) : X1 := fun E f S o => panR S (evalR E.G f x)
def xDefer (c : Call) : X1 := fun E f S o => deferA E f S c
def xBuild (t : TypeId) (ps : Array (Nat × Operand)) : X1 := fun E f S o => Option.rec (motive := fun _ => OR) .fail (fun l => ooR S (oBuild E.P t l)) (partsR E.G f ps.toList)
def xBuildSlice (t : TypeId) (len : Nat) (ps : Array (Nat × Operand)) : X1 := fun E f S o => Option.rec (motive := fun _ => OR) .fail (fun l => ooR S (oBuildSlice E.P t len l)) (partsR E.G f ps.toList)
def exec1R (E : Env) (f : T AV) (S : St) (o : Oper) : OR := Op.rec (motive := fun _ => X1) xMove xMove xPick xAlloc xBox xBuild xBuildSlice (fun _ _ _ _ => xSlow) xLoad xStore (fun _ => xSlow) (fun _ => xSlow) xNil xBin xUnOp xConvert (fun _ _ => xSlow) xMakeI (fun _ _ _ => xSlow) (fun _ _ => xSlow) (fun _ _ => xSlow) (fun _ _ _ => xSlow) xSlice xFieldAddr xField xIndexAddr xIndex xLookup (fun _ _ _ _ => xSlow) (fun _ _ _ => xSlow) (fun _ _ _ _ => xSlow) (fun _ _ => xSlow) (fun _ _ => xSlow) (fun _ => xSlow) xAssert xExtract xCall (fun _ => xSlow) xDefer xPanic (fun _ _ => xSlow) (fun _ _ _ => xSlow) (fun _ _ => xSlow) o.op E f S o
theorem neNil_fast {P : Program} {t : TypeId} {op : BinOp} {a b r : AV} (h : fastBin op a b = some r) : neNil P t a b = false := by
  unfold fastBin at h
  split at h
  · unfold neNil; cases P.underlying t with
    | none => rfl
    | some d => cases d <;> rfl
  · unfold neNil; cases P.underlying t with
    | none => rfl
    | some d => cases d <;> rfl
  · cases h
theorem exec1R_eq (E : Env) (f : T AV) (S : St) (o : Oper) : exec1R E f S o = exec1 E f S o := by
  obtain ⟨dst, op, ty, pos, after, guard⟩ := o
  cases op <;> try rfl
  case move x => show ooR S (evalR E.G f x) = ofOpt S (evalO E.G f x); rw [ooR_eq, evalR_eq]
  case assign x => show ooR S (evalR E.G f x) = ofOpt S (evalO E.G f x); rw [ooR_eq, evalR_eq]
  case load t x =>
    simp only [exec1]
    show xLoad t x E f S ⟨dst, .load t x, ty, pos, after, guard⟩ = _
    simp only [xLoad, evalR_eq, ooR_eq]
    cases evalO E.G f x <;> first | rfl | skip
  case store t x y =>
    simp only [exec1]
    show xStore t x y E f S ⟨dst, .store t x y, ty, pos, after, guard⟩ = _
    simp only [xStore, evalR_eq]
    cases evalO E.G f x <;> cases evalO E.G f y <;> first | rfl | skip
    rename_i a b
    dsimp only
    cases oStore E.P S t a b <;> rfl
  case nilCheck x =>
    simp only [exec1]
    show xNil x E f S ⟨dst, .nilCheck x, ty, pos, after, guard⟩ = _
    simp only [xNil, evalR_eq]
    cases evalO E.G f x with
    | none => rfl
    | some a => exact nilR_eq S a
  case binOp op t x y u =>
    simp only [exec1]
    show xBin op t x y u E f S ⟨dst, .binOp op t x y u, ty, pos, after, guard⟩ = _
    simp only [xBin, evalR_eq]
    cases evalO E.G f x <;> cases evalO E.G f y <;> first | rfl | skip
    rename_i a b
    dsimp only
    cases hf : fastBin op a b with
    | some r => rw [neNil_fast hf]; rfl
    | none => cases neNil E.P t a b <;> first | rfl | (cases op <;> rfl)
  case index t x i =>
    simp only [exec1]
    show xIndex t x i E f S ⟨dst, .index t x i, ty, pos, after, guard⟩ = _
    simp only [xIndex, evalR_eq]
    cases evalO E.G f x <;> cases evalO E.G f i <;> first | rfl | skip
    rename_i a b
    dsimp only
    cases fastIndex E.P t a b <;> rfl
  case makeInterface t x =>
    simp only [exec1]
    show xMakeI t x E f S ⟨dst, .makeInterface t x, ty, pos, after, guard⟩ = _
    simp only [xMakeI, evalR_eq, ooR_eq]
    cases evalO E.G f x <;> first | rfl | skip
  case fieldAddr t x i =>
    simp only [exec1]
    show xFieldAddr t x i E f S ⟨dst, .fieldAddr t x i, ty, pos, after, guard⟩ = _
    simp only [xFieldAddr, evalR_eq, ooR_eq]
    cases evalO E.G f x <;> first | rfl | skip
  case field t x i =>
    simp only [exec1]
    show xField t x i E f S ⟨dst, .field t x i, ty, pos, after, guard⟩ = _
    simp only [xField, evalR_eq, ooR_eq]
    cases evalO E.G f x <;> first | rfl | skip
  case indexAddr t x i =>
    simp only [exec1]
    show xIndexAddr t x i E f S ⟨dst, .indexAddr t x i, ty, pos, after, guard⟩ = _
    simp only [xIndexAddr, evalR_eq, ooR_eq]
    cases evalO E.G f x <;> cases evalO E.G f i <;> first | rfl | skip
  case lookup t m k ok =>
    simp only [exec1]
    show xLookup t m k ok E f S ⟨dst, .lookup t m k ok, ty, pos, after, guard⟩ = _
    simp only [xLookup, evalR_eq, ooR_eq]
    cases evalO E.G f m <;> cases evalO E.G f k <;> first | rfl | skip
  case typeAssert x xt t ok =>
    simp only [exec1]
    show xAssert x xt t ok E f S ⟨dst, .typeAssert x xt t ok, ty, pos, after, guard⟩ = _
    simp only [xAssert, evalR_eq, ooR_eq]
    cases evalO E.G f x <;> first | rfl | skip
  case extract x i =>
    simp only [exec1]
    show xExtract x i E f S ⟨dst, .extract x i, ty, pos, after, guard⟩ = _
    simp only [xExtract, evalR_eq, ooR_eq]
    cases evalO E.G f x <;> first | rfl | skip
  case pick c a b =>
    simp only [exec1]
    show pickR (ooR S (evalR E.G f a)) (ooR S (evalR E.G f b)) (evalR E.G f c) = _
    rw [ooR_eq, ooR_eq, evalR_eq, evalR_eq, evalR_eq]
    rfl
  case panic x =>
    simp only [exec1]
    show panR S (evalR E.G f x) = _
    rw [evalR_eq]
    rfl
  case box t x =>
    simp only [exec1]
    show xBox t x E f S ⟨dst, .box t x, ty, pos, after, guard⟩ = _
    simp only [xBox, evalR_eq]
    cases evalO E.G f x with
    | none => rfl
    | some a => dsimp only; cases a.noTup <;> rfl
  case convert s t x =>
    simp only [exec1]
    show xConvert s t x E f S ⟨dst, .convert s t x, ty, pos, after, guard⟩ = _
    simp only [xConvert, evalR_eq]
    cases evalO E.G f x with
    | none => rfl
    | some a => dsimp only; cases oConvert E.P s t a <;> rfl
  case slice t x lo hi mx =>
    cases mx with
    | some m => rfl
    | none =>
      simp only [exec1]
      show xSlice t x lo hi none E f S ⟨dst, .slice t x lo hi none, ty, pos, after, guard⟩ = _
      simp only [xSlice, evalR_eq, mapR_eq]
      cases evalO E.G f x with
      | none => rfl
      | some a =>
        dsimp only
        unfold sliceR
        cases a <;> cases mapO (evalO E.G f) lo.toList <;> cases mapO (evalO E.G f) hi.toList <;> first | rfl | exact ooR_eq _ _
  case build t ps =>
    simp only [exec1]
    show xBuild t ps E f S ⟨dst, .build t ps, ty, pos, after, guard⟩ = _
    simp only [xBuild, partsR_eq, ooR_eq]
    cases partsA E.G f ps.toList <;> rfl
  case buildSlice t n ps =>
    simp only [exec1]
    show xBuildSlice t n ps E f S ⟨dst, .buildSlice t n ps, ty, pos, after, guard⟩ = _
    simp only [xBuildSlice, partsR_eq, ooR_eq]
    cases partsA E.G f ps.toList <;> rfl
def putR (n : Nat) (f : Fr) (dst : Option Tmp) (a : AV) (S : St) : O := Option.rec (motive := fun _ => O) (.out .normal f S) (fun d => Bool.rec (motive := fun _ => O) .fail (.out .normal ⟨T.set f.tmps d (some a), f.dfr⟩ S) (Nat.ble (Nat.succ d) n)) dst
theorem putR_eq (n : Nat) (f : Fr) (dst : Option Tmp) (a : AV) (S : St) : putR n f dst a S = putA n f dst a S := by
  cases dst with
  | none => rfl
  | some d =>
    show Bool.rec (motive := fun _ => O) .fail (.out .normal ⟨T.set f.tmps d (some a), f.dfr⟩ S) (Nat.ble (Nat.succ d) n) = if d < n then _ else _
    by_cases h : d < n
    · rw [if_pos h, Nat.ble_eq_true_of_le h]
    · rw [if_neg h]
      have : Nat.ble (Nat.succ d) n = false := by
        cases hb : Nat.ble (Nat.succ d) n with
        | false => rfl
        | true => exact absurd (Nat.le_of_ble_eq_true hb) h
      rw [this]
def wantedR (ops : Array Oper) (o : Oper) (f : T AV) : Option Bool := Option.rec (motive := fun _ => Option Bool) (some true) (fun _ => wantedA ops o f) o.guard
theorem wantedR_eq (ops : Array Oper) (o : Oper) (f : T AV) : wantedR ops o f = wantedA ops o f := by
  unfold wantedR
  cases h : o.guard with
  | none => simp [wantedA, h]
  | some g => rfl
def retR (n : Nat) (f : Fr) (dst : Option Tmp) (r : R) : O := R.rec (motive := fun _ => O) (fun a S => putR n f dst a S) (fun a S => .out (.pan a) f S) .fail r
def yieldR (callK : CallK) (n : Nat) (dst : Option Tmp) (f : Fr) (r : OR) : O := OR.rec (motive := fun _ => O)
  (fun a S => putR n f dst a S) (fun S => putR n f dst (.tup []) S) (fun k args S => retR n f dst (callK k args S)) (fun fn caps args S => putR n ⟨f.tmps, ⟨fn, caps, args⟩ :: f.dfr⟩ dst (.tup []) S) (fun a S => .out (.pan a) f S) .fail r
def stepOR (E : Env) (callK : CallK) (n : Nat) (ops : Array Oper) (o : Oper) (f : Fr) (S : St) : O :=
  Option.rec (motive := fun _ => O) .fail (fun b => Bool.rec (motive := fun _ => O) (putR n f o.dst (.tup []) S) (yieldR callK n o.dst f (exec1R E f.tmps S o)) b) (wantedR ops o f.tmps)
theorem stepOR_eq (E : Env) (callK : CallK) (n : Nat) (ops : Array Oper) (o : Oper) (f : Fr) (S : St) : stepOR E callK n ops o f S = stepO E callK n ops o f S := by
  unfold stepOR stepO
  rw [wantedR_eq, exec1R_eq]
  cases wantedA ops o f.tmps with
  | none => rfl
  | some b =>
    cases b with
    | false => exact putR_eq ..
    | true =>
      dsimp only
      unfold yieldR
      cases exec1 E f.tmps S o with
      | val a S' => exact putR_eq ..
      | skip S' => exact putR_eq ..
      | enter k args S' =>
        dsimp only
        unfold retR
        cases callK k args S' with
        | ret a S'' => exact putR_eq ..
        | pan a S'' => rfl
        | fail => rfl
      | dfr fn caps args S' => exact putR_eq ..
      | pan a S' => rfl
      | fail => rfl
def thenR (k : Fr → St → O) (r : O) : O := O.rec (motive := fun _ => O) (fun e f S => Ex.rec (motive := fun _ => O) (k f S) (fun i => .out (.exit i) f S) (.out .ret f S) (fun a => .out (.pan a) f S) e) .fail r
def runLR (E : Env) (callK : CallK) (n : Nat) (ops : Array Oper) (l : List Oper) : Fr → St → O := List.rec (motive := fun _ => Fr → St → O) (fun f S => .out .normal f S) (fun o _ ih f S => thenR ih (stepOR E callK n ops o f S)) l
theorem runLR_eq (E : Env) (callK : CallK) (n : Nat) (ops : Array Oper) : ∀ (l : List Oper) (f : Fr) (S : St), runLR E callK n ops l f S = runL E callK n ops l f S
  | [], f, S => rfl
  | o :: r, f, S => by
    show thenR (runLR E callK n ops r) (stepOR E callK n ops o f S) = _
    rw [stepOR_eq]
    unfold runL
    cases stepO E callK n ops o f S with
    | fail => rfl
    | out e f' S' => cases e <;> first | exact runLR_eq E callK n ops r f' S' | rfl
/-- A drawn region. -/
def lookR (E : Env) (ops : Array Oper) (o : Oper) (f : T AV) (S : St) : Option AV :=
  Option.rec (motive := fun _ => Option AV) none (fun b => Bool.rec (motive := fun _ => Option AV) (some (.tup [])) (OR.rec (motive := fun _ => Option AV) (fun a _ => some a) (fun _ => none) (fun _ _ _ => none) (fun _ _ _ _ => none) (fun _ _ => none) none (exec1R E f S o)) b) (wantedR ops o f)
theorem lookR_eq (E : Env) (ops : Array Oper) (o : Oper) (f : T AV) (S : St) : lookR E ops o f S = lookV E ops o f S := by
  unfold lookR lookV
  rw [wantedR_eq, exec1R_eq]
  cases wantedA ops o f with
  | none => rfl
  | some b =>
    cases b with
    | false => rfl
    | true => dsimp only; cases exec1 E f S o <;> rfl
def recheckR (E : Env) (ops : Array Oper) (m : Nat) (S : St) (l : Look) : Bool := Bool.rec (motive := fun _ => Bool) (Option.rec (motive := fun _ => Bool) false (fun b => beqA l.a b) (lookR E ops l.o l.f S)) true (m.testBit l.idx || pureO l.o)
theorem recheckR_eq (E : Env) (ops : Array Oper) (m : Nat) (S : St) (l : Look) : recheckR E ops m S l = recheck E ops m S l := by
  unfold recheckR recheck
  rw [lookR_eq]
  cases m.testBit l.idx <;> cases pureO l.o
  · cases lookV E ops l.o l.f S <;> rfl
  · rfl
  · rfl
  · rfl
def allR {α : Type} (p : α → Bool) (l : List α) : Bool := List.rec (motive := fun _ => Bool) true (fun a _ ih => Bool.rec (motive := fun _ => Bool) false ih (p a)) l
theorem allR_eq {α : Type} (p : α → Bool) : ∀ l : List α, allR p l = l.all p
  | [] => rfl
  | a :: r => by
    show Bool.rec (motive := fun _ => Bool) false (allR p r) (p a) = _
    rw [allR_eq p r, List.all_cons]
    cases p a <;> rfl
def stepRR (E : Env) (callK : CallK) (ops : Array Oper) (o : Oper) (f : T AV) (S : St) : SR1 :=
  Option.rec (motive := fun _ => SR1) .fail (fun b => Bool.rec (motive := fun _ => SR1) (.val (.tup []) S) (OR.rec (motive := fun _ => SR1) (fun a S' => .val a S') (fun S' => .val (.tup []) S') (fun k args S' => R.rec (motive := fun _ => SR1) (fun a S'' => .val a S'') (fun a S'' => .pan a S'') .fail (callK k args S')) (fun fn caps args S' => .dfr ⟨fn, caps, args⟩ S') (fun a S' => .pan a S') .fail (exec1R E f S o)) b) (wantedR ops o f)
theorem stepRR_eq (E : Env) (callK : CallK) (ops : Array Oper) (o : Oper) (f : T AV) (S : St) : stepRR E callK ops o f S = stepR E callK ops o f S := by
  unfold stepRR stepR
  rw [wantedR_eq, exec1R_eq]
  cases wantedA ops o f with
  | none => rfl
  | some b =>
    cases b with
    | false => rfl
    | true =>
      dsimp only
      cases exec1 E f S o with
      | enter k args S' => dsimp only; cases callK k args S' <;> rfl
      | _ => rfl
def actR (n : Nat) (fb f : Fr) (dst : Option Tmp) (L : List Look) (chk : St → Look → Bool) (k : Fr → St → List Look → O) (r : SR1) : O := SR1.rec (motive := fun _ => O)
  (fun a S' => Bool.rec (motive := fun _ => O) .fail (Bool.rec (motive := fun _ => O) .fail (k (putT f dst a) S' L) (allR (chk S') L)) (okD n dst)) (fun _ _ => .fail) (fun a S' => .out (.pan a) fb S') .fail r
def drunR (E : Env) (callK : CallK) (n : Nat) (ops : Array Oper) (ms : List Nat) (fb : Fr) (l : List Nat) : Fr → St → List Look → O := List.rec (motive := fun _ => Fr → St → List Look → O) (fun f S _ => .out .normal f S)
  (fun i _ ih f S L => Option.rec (motive := fun _ => O) .fail (fun o => Bool.rec (motive := fun _ => O)
    (actR n fb f o.dst L (recheckR E ops (ms.getD i 0)) ih (stepRR E callK ops o f.tmps S))
    (Option.rec (motive := fun _ => O) .fail (fun a => Bool.rec (motive := fun _ => O) .fail (ih (putT f o.dst a) S (⟨i, o, f.tmps, a⟩ :: L)) (okD n o.dst)) (lookR E ops o f.tmps S)) (isLook o)) ops[i]?) l
theorem drunR_eq (E : Env) (callK : CallK) (n : Nat) (ops : Array Oper) (ms : List Nat) (fb : Fr) : ∀ (l : List Nat) (f : Fr) (S : St) (L : List Look), drunR E callK n ops ms fb l f S L = drun E callK n ops ms fb l f S L
  | [], f, S, L => by unfold drun; rfl
  | i :: r, f, S, L => by
    show Option.rec (motive := fun _ => O) .fail (fun o => Bool.rec (motive := fun _ => O)
      (actR n fb f o.dst L (recheckR E ops (ms.getD i 0)) (drunR E callK n ops ms fb r) (stepRR E callK ops o f.tmps S))
      (Option.rec (motive := fun _ => O) .fail (fun a => Bool.rec (motive := fun _ => O) .fail (drunR E callK n ops ms fb r (putT f o.dst a) S (⟨i, o, f.tmps, a⟩ :: L)) (okD n o.dst)) (lookR E ops o f.tmps S)) (isLook o)) ops[i]? = _
    unfold drun
    cases ops[i]? with
    | none => rfl
    | some o =>
      dsimp only
      rw [lookR_eq, stepRR_eq]
      cases isLook o with
      | true =>
        rw [if_pos rfl]
        dsimp only
        cases lookV E ops o f.tmps S with
        | none => rfl
        | some a =>
          dsimp only
          cases okD n o.dst with
          | false => rfl
          | true => rw [if_pos rfl]; exact drunR_eq E callK n ops ms fb r _ S _
      | false =>
        rw [if_neg (by simp)]
        unfold actR
        dsimp only
        cases stepR E callK ops o f.tmps S with
        | val a S' =>
          dsimp only
          have hch : recheckR E ops (ms.getD i 0) S' = recheck E ops (ms.getD i 0) S' := funext fun l => recheckR_eq E ops _ S' l
          rw [hch, allR_eq]
          cases okD n o.dst with
          | false => rfl
          | true =>
            cases L.all (recheck E ops (ms.getD i 0) S') with
            | false => rfl
            | true => exact drunR_eq E callK n ops ms fb r _ S' L
        | _ => rfl
def drawnR (E : Env) : Drawn := fun callK n ops f S =>
  Bool.rec (motive := fun _ => O) .fail (drunR E callK n ops (bm ops.toList []) ⟨eraseT ops.toList f.tmps, f.dfr⟩ (eager ops (bm ops.toList []) ops.size (List.range ops.size) 0) f S []) (static ops (bm ops.toList []) (eager ops (bm ops.toList []) ops.size (List.range ops.size) 0))
theorem drawnR_eq (E : Env) : drawnR E = drawnRun E := by
  funext callK n ops f S
  unfold drawnR drawnRun
  rw [drunR_eq]
  dsimp only
  cases static ops (bm ops.toList []) (eager ops (bm ops.toList []) ops.size (List.range ops.size) 0) <;> rfl
/-- Code. -/
abbrev XC := Env → Drawn → (Nat → Code → Fr → St → O) → CallK → Nat → Code → Fr → St → O
def cSlow : XC := fun E D rec callK n c f S => stepC E D rec callK n c f S
def cRegion (_ : Nat) (ops : Array Oper) (d : Bool) : XC := fun E D rec callK n c f S => Bool.rec (motive := fun _ => O) (runLR E callK n ops ops.toList f S) (D callK n ops f S) d
def cSeq (a b : Code) (_ _ : XC) : XC := fun E D rec callK n c f S => thenR (rec n b) (rec n a f S)
def condR (a b : O) (x : Option AV) : O := match x with
  | some (.v (.bool true)) => a
  | some (.v (.bool false)) => b
  | _ => .fail
theorem condR_eq (a b : O) (x : Option AV) : condR a b x = (match x with
  | some (.v (.bool true)) => a
  | some (.v (.bool false)) => b
  | _ => .fail : O) := by unfold condR; rfl
def cLoop (a : Code) : XC := fun E D rec callK n c f S => thenR (rec n c) (rec n a f S)
def cCond (x : Operand) (a b : Code) (_ _ : XC) : XC := fun E D rec callK n c f S => condR (rec n a f S) (rec n b f S) (evalR E.G f.tmps x)
def stepCR (E : Env) (D : Drawn) (rec : Nat → Code → Fr → St → O) (callK : CallK) (n : Nat) (c : Code) (f : Fr) (S : St) : O :=
  Code.rec (motive := fun _ => XC) cSlow cRegion cSeq cCond (fun _ _ _ => cSlow) (fun c _ => cLoop c) (fun _ _ _ _ _ _ => cSlow) (fun _ => cSlow) (fun _ _ => cSlow) (fun _ => cSlow) (fun _ => cSlow) cSlow (fun _ => cSlow) c E D rec callK n c f S
theorem stepCR_eq (E : Env) (D : Drawn) (rec : Nat → Code → Fr → St → O) (callK : CallK) (n : Nat) (c : Code) (f : Fr) (S : St) : stepCR E D rec callK n c f S = stepC E D rec callK n c f S := by
  cases c <;> try rfl
  case region id ops d =>
    cases d with
    | false => exact runLR_eq ..
    | true => rfl
  case seq a b =>
    show thenR (rec n b) (rec n a f S) = _
    simp only [stepC]
    cases rec n a f S with
    | fail => rfl
    | out e f' S' => cases e <;> rfl
  case cond x a b =>
    show condR (rec n a f S) (rec n b f S) (evalR E.G f.tmps x) = _
    simp only [stepC]
    rw [evalR_eq]
    exact condR_eq _ _ _
  case loop a =>
    show thenR (rec n (.loop a)) (rec n a f S) = _
    simp only [stepC]
    cases rec n a f S with
    | fail => rfl
    | out e f' S' => cases e <;> rfl
def runR (E : Env) (m : Nat) : Nat → Code → Fr → St → O :=
  Nat.rec (motive := fun _ => Nat → Code → Fr → St → O) (fun _ _ _ _ => .fail) (fun _ ih => stepCR E (drawnR E) ih (stepF E ih)) m
theorem runR_eq (E : Env) : ∀ m, runR E m = run E (drawnRun E) m
  | 0 => rfl
  | m + 1 => by
    have ih := runR_eq E m
    show (fun n c f S => stepCR E (drawnR E) (runR E m) (stepF E (runR E m)) n c f S) = _
    rw [ih, drawnR_eq]
    funext n c f S
    exact stepCR_eq ..
def callR (E : Env) (m : Nat) : CallK := stepF E (runR E m)
theorem callR_eq (E : Env) (m : Nat) : callR E m = callN E (drawnRun E) m := by
  unfold callR callN
  rw [runR_eq]
end Go.Ax
