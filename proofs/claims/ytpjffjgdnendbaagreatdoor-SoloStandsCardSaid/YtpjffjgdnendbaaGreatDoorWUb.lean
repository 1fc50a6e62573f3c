/-
  Helpers for runs reasoned over at this program.
-/
import Derived.Test.YtpjffjgdnendbaaGreatDoorWUa
import Derived.Test.YtpjffjgdnendbaaGreatDoorWOl
noncomputable section
namespace Go.Ax
open Go.RowKit Go.Proofs
set_option linter.unusedVariables false
set_option linter.unusedSimpArgs false
set_option maxRecDepth 100000

theorem e1_P : E1.P = Tryz.prog := rfl
theorem e1_G : E1.G = fun _ => none := rfl
theorem neNil3 (a b : AV) : neNil Tryz.prog 3 a b = false := by unfold neNil; rw [Tryz.underlying3]
theorem fb_lss (k : IntKind) (x y : Int) : fastBin .lss (.v (.int k x)) (.v (.int k y)) = some (.v (.bool (decide (x < y)))) := by simp [fastBin]
theorem fb_leq (k : IntKind) (x y : Int) : fastBin .leq (.v (.int k x)) (.v (.int k y)) = some (.v (.bool (decide (x ≤ y)))) := by simp [fastBin]
theorem fb_gtr (k : IntKind) (x y : Int) : fastBin .gtr (.v (.int k x)) (.v (.int k y)) = some (.v (.bool (decide (x > y)))) := by simp [fastBin]
theorem fb_geq (k : IntKind) (x y : Int) : fastBin .geq (.v (.int k x)) (.v (.int k y)) = some (.v (.bool (decide (x ≥ y)))) := by simp [fastBin]
theorem fb_add (k : IntKind) (x y : Int) : fastBin .add (.v (.int k x)) (.v (.int k y)) = some (.v (.int k (k.wrap (x + y)))) := by simp [fastBin]
theorem fb_neqI (k : IntKind) (x y : Int) : fastBin .neq (.v (.int k x)) (.v (.int k y)) = some (.v (.bool (x != y))) := by simp [fastBin]
theorem fb_eqlI (k : IntKind) (x y : Int) : fastBin .eql (.v (.int k x)) (.v (.int k y)) = some (.v (.bool (x == y))) := by simp [fastBin]
def intA (n : Nat) : AV := .v (.int .i64 (n : Int))
theorem wrap_nat {n : Nat} (h : n ≤ 1000000000) : IntKind.i64.wrap (n : Int) = (n : Int) := by
  rw [← wrap64R_eq]
  have : in64 (n : Int) = true := Nat.ble_eq_true_of_le (by omega)
  unfold wrap64R
  rw [this]
theorem wrap_add {i j : Nat} (h : i + j ≤ 1000000000) : IntKind.i64.wrap ((i : Int) + (j : Int)) = ((i + j : Nat) : Int) := by
  rw [← wrap_nat h]; push_cast; rfl
theorem wrap_one {i : Nat} (h : i + 1 ≤ 1000000000) : IntKind.i64.wrap ((i : Int) + 1) = ((i + 1 : Nat) : Int) := wrap_add (j := 1) h
def groundX (P : Program) (G : Gl) (f : T AV) (S : St) (o : Oper) : OR := ground P G f S o
def notO (r : OR) (S : St) (x : Option AV) : OR := match x with
  | some (.v (.bool b)) => .val (.v (.bool (!b))) S
  | _ => r
theorem ground_not (f : T AV) (S : St) (dst : Option Tmp) (k : Tmp) (ty : TypeId) (pos : String) (af : Array Edge) (gd : Option (Nat × Bool)) :
    ground Tryz.prog (fun _ => none) f S { dst := dst, op := .unOp .not 4 (.tmp k), type := ty, pos := pos, after := af, guard := gd } = notO (groundX Tryz.prog (fun _ => none) f S { dst := dst, op := .unOp .not 4 (.tmp k), type := ty, pos := pos, after := af, guard := gd }) S (f.get k) := by
  unfold notO
  split
  · rename_i b h
    have hg : groundO (fun _ => none) f (.tmp k) = some (.bool b) := by unfold groundO; simp only [evalO, h]; rfl
    unfold ground
    simp only [Op.operands, List.all_cons, List.all_nil, hg, Option.isSome_some, Bool.and_self, if_true]
    have e : execOp (fun x => (groundO (fun _ => none) f x).getD undef) { dst := dst, op := .unOp .not 4 (.tmp k), type := ty, pos := pos, after := af, guard := gd } = execOp (fun _ => .bool b) { dst := dst, op := .unOp .not 4 (.tmp k), type := ty, pos := pos, after := af, guard := gd } := by
      simp only [execOp, hg, Option.getD_some]
    rw [e]
    cases b <;> rfl
  · rfl
theorem notO_bool (r : OR) (S : St) (b : Bool) : notO r S (some (.v (.bool b))) = .val (.v (.bool (!b))) S := rfl
/-- All that was there is as it was. -/
def Keep (S S' : St) : Prop := S.next ≤ S'.next ∧ ∀ id, id < S.next → S'.mem.get id = S.mem.get id
theorem Keep.refl (S : St) : Keep S S := ⟨Nat.le_refl _, fun _ _ => rfl⟩
theorem Keep.trans {S S1 S2 : St} (h : Keep S S1) (k : Keep S1 S2) : Keep S S2 := ⟨Nat.le_trans h.1 k.1, fun id hid => (k.2 id (Nat.lt_of_lt_of_le hid h.1)).trans (h.2 id hid)⟩
def St.put (S : St) (id : Nat) (cs : List AV) : St := { S with mem := S.mem.set id (some (.box cs)) }
theorem keep_new (S : St) (cs : List AV) : Keep S (S.newBox cs) := ⟨Nat.le_succ _, fun id hid => by
  show (S.mem.set S.next _).get id = _
  rw [T.get_set, if_neg (by omega)]⟩
theorem keep_put {S S' : St} (h : Keep S S') {id : Nat} (hid : S.next ≤ id) (cs : List AV) : Keep S (S'.put id cs) := ⟨h.1, fun k hk => by
  show (S'.mem.set id _).get k = _
  rw [T.get_set, if_neg (by omega)]; exact h.2 k hk⟩
theorem new_get (S : St) (cs : List AV) : (S.newBox cs).mem.get S.next = some (.box cs) := by
  show (S.mem.set S.next _).get S.next = _
  rw [T.get_set, if_pos rfl]
theorem put_get (S : St) (id : Nat) (cs : List AV) : (S.put id cs).mem.get id = some (.box cs) := by
  show (S.mem.set id _).get id = _
  rw [T.get_set, if_pos rfl]
section
variable {E : Env} {n : Nat} {f : Fr} {S : St} {Q : O → Prop} {ops : Array Oper} {t : T AV} {ds : List Dfr}
theorem execL_val2 {o : Oper} {l : List Oper} {a : AV} {S' : St} : execL E n ops o l f S Q (some true) (.val a S') = putL E n ops l o.dst f a S' Q := _root_.id rfl
theorem execL_skip2 {o : Oper} {l : List Oper} {S' : St} : execL E n ops o l f S Q (some true) (.skip S') = putL E n ops l o.dst f (.tup []) S' Q := _root_.id rfl
theorem execL_enter2 {o : Oper} {l : List Oper} {k : FuncId} {args : List AV} {S' : St} : execL E n ops o l f S Q (some true) (.enter k args S') = WC E k args S' (retL E n ops l o.dst f Q) := _root_.id rfl
theorem execL_dfr2 {o : Oper} {l : List Oper} {fn : Fn} {caps args : List AV} {S' : St} : execL E n ops o l f S Q (some true) (.dfr fn caps args S') = putL E n ops l o.dst { f with dfr := ⟨fn, caps, args⟩ :: f.dfr } (.tup []) S' Q := _root_.id rfl
theorem execL_pan2 {o : Oper} {l : List Oper} {a : AV} {S' : St} : execL E n ops o l f S Q (some true) (.pan a S') = Q (.out (.pan a) f S') := _root_.id rfl
theorem putL_none2 {l : List Oper} {a : AV} : putL E n ops l none f a S Q = WL E n ops l f S Q := _root_.id rfl
theorem putL_some2 {l : List Oper} {d : Nat} {a : AV} : putL E n ops l (some d) ⟨t, ds⟩ a S Q = (d < n ∧ WL E n ops l ⟨t.set d (some a), ds⟩ S Q) := _root_.id rfl
theorem retL_ret2 {l : List Oper} {dst : Option Tmp} {a : AV} : retL E n ops l dst f Q (.ret a S) = putL E n ops l dst f a S Q := _root_.id rfl
theorem retL_pan2 {l : List Oper} {dst : Option Tmp} {a : AV} : retL E n ops l dst f Q (.pan a S) = Q (.out (.pan a) f S) := _root_.id rfl
theorem WR_re2 {o : Oper} {l : List RS} : WR E n ops (.re o :: l) f S Q = (againO E ops o f.tmps S = true ∧ WR E n ops l f S Q) := _root_.id rfl
theorem execR_val2 {o : Oper} {l : List RS} {a : AV} {S' : St} : execR E n ops o l f S Q (some true) (.val a S') = putRW E n ops l o.dst f a S' Q := _root_.id rfl
theorem execR_skip2 {o : Oper} {l : List RS} {S' : St} : execR E n ops o l f S Q (some true) (.skip S') = putRW E n ops l o.dst f (.tup []) S' Q := _root_.id rfl
theorem execR_enter2 {o : Oper} {l : List RS} {k : FuncId} {args : List AV} {S' : St} : execR E n ops o l f S Q (some true) (.enter k args S') = WC E k args S' (retRW E n ops l o.dst f Q) := _root_.id rfl
theorem execR_pan2 {o : Oper} {l : List RS} {a : AV} {S' : St} : execR E n ops o l f S Q (some true) (.pan a S') = Q (.out (.pan a) f S') := _root_.id rfl
theorem putRW_none2 {l : List RS} {a : AV} : putRW E n ops l none f a S Q = WR E n ops l f S Q := _root_.id rfl
theorem putRW_some2 {l : List RS} {d : Nat} {a : AV} : putRW E n ops l (some d) ⟨t, ds⟩ a S Q = (d < n ∧ WR E n ops l ⟨t.set d (some a), ds⟩ S Q) := _root_.id rfl
theorem retRW_ret2 {l : List RS} {dst : Option Tmp} {a : AV} : retRW E n ops l dst f Q (.ret a S) = putRW E n ops l dst f a S Q := _root_.id rfl
theorem retRW_pan2 {l : List RS} {dst : Option Tmp} {a : AV} : retRW E n ops l dst f Q (.pan a S) = Q (.out (.pan a) f S) := _root_.id rfl
theorem condW_t2 {x y : Prop} : condW (some (.v (.bool true))) x y = x := _root_.id rfl
theorem condW_f2 {x y : Prop} : condW (some (.v (.bool false))) x y = y := _root_.id rfl
theorem seqQ_exit2 {b : Code} {id : Nat} : seqQ E n b Q (.out (.exit id) f S) = Q (.out (.exit id) f S) := _root_.id rfl
theorem seqQ_ret2 {b : Code} : seqQ E n b Q (.out .ret f S) = Q (.out .ret f S) := _root_.id rfl
theorem seqQ_pan2 {b : Code} {a : AV} : seqQ E n b Q (.out (.pan a) f S) = Q (.out (.pan a) f S) := _root_.id rfl
theorem blockW_normal2 {id : Nat} : blockW id Q (.out .normal f S) = Q (.out .normal f S) := _root_.id rfl
theorem blockW_ret2 {id : Nat} : blockW id Q (.out .ret f S) = Q (.out .ret f S) := _root_.id rfl
theorem blockW_pan2 {id : Nat} {a : AV} : blockW id Q (.out (.pan a) f S) = Q (.out (.pan a) f S) := _root_.id rfl
theorem blockW_exit2 {id id' : Nat} : blockW id Q (.out (.exit id') f S) = if id' = id then Q (.out .normal f S) else Q (.out (.exit id') f S) := _root_.id rfl
theorem fixQ_normal2 {g : Fr} : fixQ ops g Q (.out .normal f S) = Q (.out .normal f S) := _root_.id rfl
theorem fixQ_pan2 {g : Fr} {a : AV} : fixQ ops g Q (.out (.pan a) f S) = Q (.out (.pan a) ⟨eraseT ops.toList g.tmps, g.dfr⟩ S) := _root_.id rfl
end
theorem seqQ_normal2 {E : Env} {n : Nat} {f : Fr} {S : St} {Q : O → Prop} {b : Code} : seqQ E n b Q (.out .normal f S) = W E n b f S Q := _root_.id rfl
theorem WL_nil2 {E : Env} {n : Nat} {f : Fr} {S : St} {Q : O → Prop} {ops : Array Oper} : WL E n ops [] f S Q = Q (.out .normal f S) := _root_.id rfl
theorem WR_nil2 {E : Env} {n : Nat} {f : Fr} {S : St} {Q : O → Prop} {ops : Array Oper} : WR E n ops [] f S Q = Q (.out .normal f S) := _root_.id rfl
end Go.Ax
