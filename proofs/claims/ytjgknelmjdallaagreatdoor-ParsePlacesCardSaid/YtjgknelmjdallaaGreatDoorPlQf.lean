/-
  Equations of runs that the kernel need not find again; entries of a literal map, step by step.
-/
import Derived.Test.YtjgknelmjdallaaGreatDoorPlPq2
noncomputable section
namespace Go.Ax
open Go.RowKit Go.Proofs
set_option linter.unusedVariables false
set_option linter.unusedSimpArgs false
def insR (r : Option St) : OR := match r with
  | some S' => .skip S'
  | none => .fail
def insO (P : Program) (S : St) (t : TypeId) (a b c : Option AV) : OR := match a, b, c with
  | some a, some b, some c => insR (Fk P S t a b c)
  | _, _, _ => .fail
theorem E6 (S' : St) : insR (some S') = .skip S' := _root_.id rfl
theorem E7 (P : Program) (S : St) (t : TypeId) (a b c : AV) : insO P S t (some a) (some b) (some c) = insR (Fk P S t a b c) := _root_.id rfl
theorem D1 (E : Env) (f : T AV) (S : St) (dst : Option Tmp) (t : TypeId) (m k x : Operand) (ty : TypeId) (pos : String) (af : Array Edge) (gd : Option (Nat × Bool)) :
    C0 E f S { dst := dst, op := .insert t m k x, type := ty, pos := pos, after := af, guard := gd } = insO E.P S t (Cz E.G f m) (Cz E.G f k) (Cz E.G f x) := by
  simp only [C0]
  unfold insO insR
  rfl
section
variable {E : Env} {n : Nat} {f : Fr} {S : St} {Q : O → Prop} {ops : Array Oper} {t : T AV} {ds : List Dfr}
theorem Ei {o : Oper} {l : List Oper} {a : AV} {S' : St} : N6 E n ops o l f S Q (some true) (.val a S') = R3 E n ops l o.dst f a S' Q := _root_.id rfl
theorem D7 {o : Oper} {l : List Oper} {S' : St} : N6 E n ops o l f S Q (some true) (.skip S') = R3 E n ops l o.dst f (.tup []) S' Q := _root_.id rfl
theorem D0 {o : Oper} {l : List Oper} {k : FuncId} {args : List AV} {S' : St} : N6 E n ops o l f S Q (some true) (.enter k args S') = WC E k args S' (hY E n ops l o.dst f Q) := _root_.id rfl
theorem Ej {o : Oper} {l : List Oper} {a : AV} {S' : St} : N6 E n ops o l f S Q (some true) (.pan a S') = Q (.out (.pan a) f S') := _root_.id rfl
theorem Eg {l : List Oper} {a : AV} : R3 E n ops l none f a S Q = WL E n ops l f S Q := _root_.id rfl
theorem Ef {l : List Oper} {d : Nat} {a : AV} : R3 E n ops l (some d) ⟨t, ds⟩ a S Q = (d < n ∧ WL E n ops l ⟨t.set d (some a), ds⟩ S Q) := _root_.id rfl
theorem E3 {l : List Oper} {dst : Option Tmp} {a : AV} : hY E n ops l dst f Q (.ret a S) = R3 E n ops l dst f a S Q := _root_.id rfl
theorem E4 {l : List Oper} {dst : Option Tmp} {a : AV} : hY E n ops l dst f Q (.pan a S) = Q (.out (.pan a) f S) := _root_.id rfl
theorem Fd {x y : Prop} : Rg (some (.v (.bool true))) x y = x := _root_.id rfl
theorem Fe {x y : Prop} : Rg (some (.v (.bool false))) x y = y := _root_.id rfl
theorem Ee {b : Code} {id : Nat} : Ye E n b Q (.out (.exit id) f S) = Q (.out (.exit id) f S) := _root_.id rfl
theorem Ey {b : Code} : Ye E n b Q (.out .ret f S) = Q (.out .ret f S) := _root_.id rfl
theorem Ez {b : Code} {a : AV} : Ye E n b Q (.out (.pan a) f S) = Q (.out (.pan a) f S) := _root_.id rfl
theorem Dv {id : Nat} : Kz id Q (.out .normal f S) = Q (.out .normal f S) := _root_.id rfl
theorem D8 {id : Nat} : Kz id Q (.out .ret f S) = Q (.out .ret f S) := _root_.id rfl
theorem D9 {id : Nat} {a : AV} : Kz id Q (.out (.pan a) f S) = Q (.out (.pan a) f S) := _root_.id rfl
theorem D2 {id id' : Nat} : Kz id Q (.out (.exit id') f S) = if id' = id then Q (.out .normal f S) else Q (.out (.exit id') f S) := _root_.id rfl
end
end Go.Ax
