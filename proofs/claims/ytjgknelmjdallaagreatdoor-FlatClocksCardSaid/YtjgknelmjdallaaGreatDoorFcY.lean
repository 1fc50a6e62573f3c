/-
  Operations that leave the state as it is, made ready: what they answer, the slow way answers.
-/
import Derived.Test.YtjgknelmjdallaaGreatDoorFcX
noncomputable section
namespace Go.Ax
open Go.RowKit
set_option linter.unusedVariables false
set_option linter.unusedSimpArgs false

def bnd (h : AV → Option AV) (o : Option AV) : Option AV := Option.rec (motive := fun _ => Option AV) none h o
theorem bnd_some {h : AV → Option AV} {o : Option AV} {r : AV} (e : bnd h o = some r) : ∃ a, o = some a ∧ h a = some r := by
  cases o with
  | none => cases e
  | some a => exact ⟨a, rfl, e⟩
def bndL (h : List AV → Option AV) (o : Option (List AV)) : Option AV := Option.rec (motive := fun _ => Option AV) none h o
theorem bndL_some {h : List AV → Option AV} {o : Option (List AV)} {r : AV} (e : bndL h o = some r) : ∃ a, o = some a ∧ h a = some r := by
  cases o with
  | none => cases e
  | some a => exact ⟨a, rfl, e⟩
def VOk (E : Env) (o : Oper) (b : VB) : Prop := ∀ f S a, b.v f S = some a → exec1 E f S o = .val a S
def failV : VB := ⟨fun _ _ => none⟩
theorem failV_ok {E : Env} {o : Oper} : VOk E o failV := fun f S a h => by cases h
def slowV (E : Env) (o : Oper) : VB := ⟨fun f S => OR.rec (motive := fun _ => Option AV) (fun a _ => some a) (fun _ => none) (fun _ _ _ => none) (fun _ _ _ _ => none) (fun _ _ => none) none (exec1R E f S o)⟩
theorem slowV_ok {E : Env} {o : Oper} (hl : isLook o = true) : VOk E o (slowV E o) := fun f S a h => by
  have h : OR.rec (motive := fun _ => Option AV) (fun a _ => some a) (fun _ => none) (fun _ _ _ => none) (fun _ _ _ _ => none) (fun _ _ => none) none (exec1R E f S o) = some a := h
  rw [exec1R_eq] at h
  rcases look_same (E := E) (f := f) (S := S) hl with ⟨b, hb⟩ | hb
  · rw [hb] at h
    have h : some b = some a := h
    injection h with h; subst h; exact hb
  · rw [hb] at h; cases h
def moveV (g : GB) : VB := ⟨fun f _ => g.g f⟩
/-- Loads. -/
def aggO (o : Option (List AV)) : Option AV := bndL (fun l => some (.agg l)) o
def cell1 (c : Cell) (off : Nat) : Option AV := Cell.rec (motive := fun _ => Nat → Option AV) (fun cs off => atR off cs) (fun _ _ => none) (fun _ _ => none) c off
def cellO1 (c : Option Cell) (off : Nat) : Option AV := Option.rec (motive := fun _ => Nat → Option AV) (fun _ => none) cell1 c off
def ld1 (S : St) (a : AV) : Option AV := PV.rec (motive := fun _ => St → Option AV) (fun id off S => cellO1 (S.mem.get id) off) (fun cs _ => atR 0 cs) (fun _ => none) (fun _ _ _ _ _ => none) (fun _ _ => none) (fun _ _ => none) (fun _ => none) (fun _ _ _ _ _ => none) a.pv S
theorem ld1_ok {P : Program} {t : TypeId} {S : St} {a x : AV} (ht : isAggT P t = some false) (h : ld1 S a = some x) : oLoad P S t a = some x := by
  unfold ld1 at h
  cases hp : a.pv with
  | p id off =>
    rw [hp] at h
    rw [pv_p hp]
    have h : cellO1 (S.mem.get id) off = some x := h
    cases hm : S.mem.get id with
    | none => rw [hm] at h; cases h
    | some c =>
      rw [hm] at h
      cases c with
      | box cs =>
        have h : atR off cs = some x := h
        rw [atR_eq] at h
        have hlt := (List.getElem?_eq_some_iff.1 h).1
        simp only [oLoad, behind, hm, if_pos (Nat.le_of_lt hlt), ht]
        rw [List.head?_drop]; exact h
      | tip m => cases h
      | mp es => cases h
  | e cs =>
    rw [hp] at h
    rw [pv_e hp]
    have h : atR 0 cs = some x := h
    rw [atR_eq] at h
    simp only [oLoad, behind, ht]
    rw [List.head?_eq_getElem?]; exact h
  | n => rw [hp] at h; cases h
  | l => rw [hp] at h; cases h
  | a => rw [hp] at h; cases h
  | t => rw [hp] at h; cases h
  | no => rw [hp] at h; cases h
  | w => rw [hp] at h; cases h
def cutR (off n : Nat) (cs : List AV) : Option AV := bndL (fun r => aggO (takeR n r)) (dropR off cs)
theorem cutR_some {off n : Nat} {cs : List AV} {x : AV} (h : cutR off n cs = some x) : off + n ≤ cs.length ∧ x = .agg ((cs.drop off).take n) := by
  obtain ⟨r, h1, h2⟩ := bndL_some h
  obtain ⟨q, h3, h4⟩ := bndL_some h2
  obtain ⟨k1, rfl⟩ := dropR_some _ _ _ h1
  obtain ⟨k2, rfl⟩ := takeR_some _ _ _ h3
  injection h4 with h4
  exact ⟨by simp at k2; omega, h4.symm⟩
def cellN (n : Nat) (c : Cell) (off : Nat) : Option AV := Cell.rec (motive := fun _ => Nat → Nat → Option AV) (fun cs n off => cutR off n cs) (fun _ _ _ => none) (fun _ _ _ => none) c n off
def cellON (n : Nat) (c : Option Cell) (off : Nat) : Option AV := Option.rec (motive := fun _ => Nat → Nat → Option AV) (fun _ _ => none) (fun c n off => cellN n c off) c n off
def ldN (n : Nat) (S : St) (a : AV) : Option AV := PV.rec (motive := fun _ => Nat → St → Option AV) (fun id off n S => cellON n (S.mem.get id) off) (fun cs n _ => cutR 0 n cs) (fun _ _ => none) (fun _ _ _ _ _ _ => none) (fun _ _ _ => none) (fun _ _ _ => none) (fun _ _ => none) (fun _ _ _ _ _ _ => none) a.pv n S
theorem ldN_ok {P : Program} {t : TypeId} {n : Nat} {S : St} {a x : AV} (ht : isAggT P t = some true) (hs : sizeT P t = some n) (h : ldN n S a = some x) : oLoad P S t a = some x := by
  unfold ldN at h
  cases hp : a.pv with
  | p id off =>
    rw [hp] at h
    rw [pv_p hp]
    have h : cellON n (S.mem.get id) off = some x := h
    cases hm : S.mem.get id with
    | none => rw [hm] at h; cases h
    | some c =>
      rw [hm] at h
      cases c with
      | box cs =>
        have h : cutR off n cs = some x := h
        obtain ⟨h1, rfl⟩ := cutR_some h
        simp only [oLoad, behind, hm, if_pos (show off ≤ cs.length by omega), ht, hs, List.length_drop]
        rw [if_pos (by omega)]
      | tip m => cases h
      | mp es => cases h
  | e cs =>
    rw [hp] at h
    rw [pv_e hp]
    have h : cutR 0 n cs = some x := h
    obtain ⟨h1, rfl⟩ := cutR_some h
    simp only [oLoad, behind, ht, hs]
    rw [if_pos (by omega)]; rfl
  | n => rw [hp] at h; cases h
  | l => rw [hp] at h; cases h
  | a => rw [hp] at h; cases h
  | t => rw [hp] at h; cases h
  | no => rw [hp] at h; cases h
  | w => rw [hp] at h; cases h
def load1V (g : GB) : VB := ⟨fun f S => bnd (ld1 S) (g.g f)⟩
def loadNV (n : Nat) (g : GB) : VB := ⟨fun f S => bnd (ldN n S) (g.g f)⟩
def loadV (P : Program) (t : TypeId) (g : GB) : VB := match isAggT P t with
  | some false => load1V g
  | some true => match sizeT P t with
    | some n => loadNV n g
    | none => failV
  | none => failV
theorem loadV_ok {E : Env} {o : Oper} {t : TypeId} {x : Operand} (ho : o.op = .load t x) : VOk E o (loadV E.P t (opG E.G x)) := fun f S a h => by
  unfold loadV at h
  simp only [exec1, ho]
  split at h
  · rename_i ht
    obtain ⟨b, h1, h2⟩ := bnd_some h
    rw [opG_ok] at h1
    rw [h1]; simp only
    rw [ld1_ok ht h2]; rfl
  · rename_i ht
    split at h
    · rename_i n hs
      obtain ⟨b, h1, h2⟩ := bnd_some h
      rw [opG_ok] at h1
      rw [h1]; simp only
      rw [ldN_ok ht hs h2]; rfl
    · cases h
  · cases h
/-- Parts of a struct. -/
def fld1 (off : Nat) (a : AV) : Option AV := PV.rec (motive := fun _ => Nat → Option AV) (fun _ _ _ => none) (fun _ _ => none) (fun _ => none) (fun _ _ _ _ _ => none) (fun cs off => atR off cs) (fun _ _ => none) (fun _ => none) (fun _ _ _ _ _ => none) a.pv off
def fldN (off n : Nat) (a : AV) : Option AV := PV.rec (motive := fun _ => Nat → Nat → Option AV) (fun _ _ _ _ => none) (fun _ _ _ => none) (fun _ _ => none) (fun _ _ _ _ _ _ => none) (fun cs off n => cutR off n cs) (fun _ _ _ => none) (fun _ _ => none) (fun _ _ _ _ _ _ => none) a.pv off n
theorem fld1_some {off : Nat} {a x : AV} (h : fld1 off a = some x) : ∃ cs, a = .agg cs ∧ cs[off]? = some x := by
  unfold fld1 at h
  cases hp : a.pv with
  | a cs => rw [hp] at h; exact ⟨cs, pv_a hp, (atR_eq off cs).symm.trans h⟩
  | p => rw [hp] at h; cases h
  | e => rw [hp] at h; cases h
  | n => rw [hp] at h; cases h
  | l => rw [hp] at h; cases h
  | t => rw [hp] at h; cases h
  | no => rw [hp] at h; cases h
  | w => rw [hp] at h; cases h
theorem fldN_some {off n : Nat} {a x : AV} (h : fldN off n a = some x) : ∃ cs, a = .agg cs ∧ off + n ≤ cs.length ∧ x = .agg ((cs.drop off).take n) := by
  unfold fldN at h
  cases hp : a.pv with
  | a cs => rw [hp] at h; exact ⟨cs, pv_a hp, cutR_some h⟩
  | p => rw [hp] at h; cases h
  | e => rw [hp] at h; cases h
  | n => rw [hp] at h; cases h
  | l => rw [hp] at h; cases h
  | t => rw [hp] at h; cases h
  | no => rw [hp] at h; cases h
  | w => rw [hp] at h; cases h
def field1V (off : Nat) (g : GB) : VB := ⟨fun f _ => bnd (fld1 off) (g.g f)⟩
def fieldNV (off n : Nat) (g : GB) : VB := ⟨fun f _ => bnd (fldN off n) (g.g f)⟩
def fieldV (P : Program) (t : TypeId) (i : Nat) (g : GB) : VB := match fieldsOf P t with
  | some fs => match fs[i]? with
    | some fd => match isAggT P fd.type with
      | some true => match sizeT P fd.type with
        | some n => fieldNV fd.offset n g
        | none => failV
      | some false => field1V fd.offset g
      | none => failV
    | none => failV
  | none => failV
theorem fieldV_ok {E : Env} {o : Oper} {t : TypeId} {i : Nat} {x : Operand} (ho : o.op = .field t x i) : VOk E o (fieldV E.P t i (opG E.G x)) := fun f S a h => by
  unfold fieldV at h
  simp only [exec1, ho]
  split at h
  · rename_i fs hfs
    split at h
    · rename_i fd hfd
      split at h
      · rename_i ht
        split at h
        · rename_i n hs
          obtain ⟨b, h1, h2⟩ := bnd_some h
          rw [opG_ok] at h1
          obtain ⟨cs, rfl, h3, rfl⟩ := fldN_some h2
          rw [h1]
          simp only [oField, hfs, hfd, oPart, ht, hs, if_pos h3, ofOpt]
        · cases h
      · rename_i ht
        obtain ⟨b, h1, h2⟩ := bnd_some h
        rw [opG_ok] at h1
        obtain ⟨cs, rfl, h3⟩ := fld1_some h2
        rw [h1]
        simp only [oField, hfs, hfd, oPart, ht, h3, ofOpt]
      · cases h
    · cases h
  · cases h
def shiftR (n : Nat) (a : AV) : Option AV := PV.rec (motive := fun _ => Nat → Option AV) (fun id off n => some (.ptr id (Nat.add off n))) (fun cs n => bndL (fun r => some (.ep r)) (dropR n cs)) (fun _ => none) (fun _ _ _ _ _ => none) (fun _ _ => none) (fun _ _ => none) (fun _ => none) (fun _ _ _ _ _ => none) a.pv n
theorem shiftR_some {n : Nat} {a x : AV} (h : shiftR n a = some x) : shift a n = some x := by
  unfold shiftR at h
  cases hp : a.pv with
  | p id off => rw [hp] at h; rw [pv_p hp]; exact h
  | e cs =>
    rw [hp] at h; rw [pv_e hp]
    obtain ⟨r, h1, h2⟩ := bndL_some h
    obtain ⟨k1, rfl⟩ := dropR_some _ _ _ h1
    simp only [shift, if_pos k1]; exact h2
  | a => rw [hp] at h; cases h
  | n => rw [hp] at h; cases h
  | l => rw [hp] at h; cases h
  | t => rw [hp] at h; cases h
  | no => rw [hp] at h; cases h
  | w => rw [hp] at h; cases h
def shiftV (off : Nat) (g : GB) : VB := ⟨fun f _ => bnd (shiftR off) (g.g f)⟩
def faddrV (P : Program) (s : TypeId) (i : Nat) (g : GB) : VB := match fieldsOf P s with
  | some fs => match fs[i]? with
    | some fd => match sizeT P fd.type with
      | some (_ + 1) => shiftV fd.offset g
      | _ => failV
    | none => failV
  | none => failV
theorem faddrV_ok {E : Env} {o : Oper} {t : TypeId} {i : Nat} {x : Operand} (ho : o.op = .fieldAddr t x i) : VOk E o (faddrV E.P t i (opG E.G x)) := fun f S a h => by
  unfold faddrV at h
  simp only [exec1, ho]
  split at h
  · rename_i fs hfs
    split at h
    · rename_i fd hfd
      split at h
      · rename_i n hs
        obtain ⟨b, h1, h2⟩ := bnd_some h
        rw [opG_ok] at h1
        rw [h1]
        simp only [oFieldAddr, hfs, hfd, hs, shiftR_some h2, ofOpt]
      · cases h
    · cases h
  · cases h
def okFn (fn : Fn) : Bool := match fn with
  | .func _ => true
  | _ => false
def okN (a : AV) : Bool := AV.rec (motive_1 := fun _ => Bool) (motive_2 := fun _ => Unit) (fun _ => false) false (fun _ _ => true) (fun _ _ => true) false (fun _ _ _ _ _ => false) false (fun _ => false) (fun fn _ _ _ _ => okFn fn) (fun _ _ _ => true) (fun _ _ => false) (fun _ _ => false) (fun _ _ _ _ => false) () (fun _ _ _ _ => ()) a
def nilX (a : AV) : Option AV := Bool.rec (motive := fun _ => Option AV) none (some a) (okN a)
def nilV (g : GB) : VB := ⟨fun f _ => bnd nilX (g.g f)⟩
theorem nilV_ok {E : Env} {o : Oper} {x : Operand} (ho : o.op = .nilCheck x) : VOk E o (nilV (opG E.G x)) := fun f S a h => by
  obtain ⟨b, h1, h2⟩ := bnd_some h
  rw [opG_ok] at h1
  simp only [exec1, ho, h1]
  cases b with
  | fn fn x y => cases fn with
    | func k => injection h2 with h2; subst h2; rfl
    | _ => cases h2
  | ptr => injection h2 with h2; subst h2; rfl
  | ep => injection h2 with h2; subst h2; rfl
  | iface => injection h2 with h2; subst h2; rfl
  | _ => cases h2
/-- Elements of a row. -/
def aggCells (a : AV) : Option (List AV) := PV.rec (motive := fun _ => Option (List AV)) (fun _ _ => none) (fun _ => none) none (fun _ _ _ _ => none) (fun cs => some cs) (fun _ => none) none (fun _ _ _ _ => none) a.pv
def cellsR (a : AV) : List AV := Option.rec (motive := fun _ => List AV) [a] (fun cs => cs) (aggCells a)
theorem cellsR_eq (a : AV) : cellsR a = a.cells := by cases a <;> rfl
def epO (o : Option AV) : Option AV := bnd (fun x => some (.ep (cellsR x))) o
def rowAt (n : Nat) (a : AV) (j : Nat) : Option AV := PV.rec (motive := fun _ => Nat → Nat → Option AV) (fun _ _ _ _ => none) (fun _ _ _ => none) (fun _ _ => none) (fun _ _ sz es n j => Bool.rec (motive := fun _ => Option AV) none (epO (atR j es)) (Nat.beq n sz)) (fun _ _ _ => none) (fun _ _ _ => none) (fun _ _ => none) (fun id off len sz n j => Bool.rec (motive := fun _ => Option AV) none (Bool.rec (motive := fun _ => Option AV) none (some (.ptr id (Nat.add off (Nat.mul j sz)))) (Nat.ble (Nat.succ j) len)) (Nat.beq n sz)) a.pv n j
theorem rowAt_some {n j : Nat} {a x : AV} (h : rowAt n a j = some x) : (∃ tok off es y, a = .sl tok off n es ∧ es[j]? = some y ∧ x = .ep y.cells) ∨ (∃ id off len, a = .bs id off len n ∧ j < len ∧ x = .ptr id (off + j * n)) := by
  unfold rowAt at h
  cases hp : a.pv with
  | l tok off sz es =>
    rw [hp] at h
    have h : Bool.rec (motive := fun _ => Option AV) none (epO (atR j es)) (Nat.beq n sz) = some x := h
    cases hb : Nat.beq n sz with
    | false => rw [hb] at h; cases h
    | true =>
      rw [hb] at h
      obtain ⟨y, h1, h2⟩ := bnd_some h
      rw [atR_eq] at h1
      have := Nat.eq_of_beq_eq_true hb
      subst this
      injection h2 with h2
      rw [cellsR_eq] at h2
      exact .inl ⟨tok, off, es, y, pv_l hp, h1, h2.symm⟩
  | w id off len sz =>
    rw [hp] at h
    have h : Bool.rec (motive := fun _ => Option AV) none (Bool.rec (motive := fun _ => Option AV) none (some (.ptr id (Nat.add off (Nat.mul j sz)))) (Nat.ble (Nat.succ j) len)) (Nat.beq n sz) = some x := h
    cases hb : Nat.beq n sz with
    | false => rw [hb] at h; cases h
    | true =>
      have := Nat.eq_of_beq_eq_true hb
      subst this
      rw [hb] at h
      cases hc : Nat.ble (Nat.succ j) len with
      | false => rw [hc] at h; cases h
      | true =>
        rw [hc] at h
        injection h with h
        exact .inr ⟨id, off, len, pv_w hp, Nat.le_of_ble_eq_true hc, h.symm⟩
  | p => rw [hp] at h; cases h
  | e => rw [hp] at h; cases h
  | n => rw [hp] at h; cases h
  | a => rw [hp] at h; cases h
  | t => rw [hp] at h; cases h
  | no => rw [hp] at h; cases h
def natOf (s : SV) : Option Nat := SV.rec (motive := fun _ => Option Nat) (fun _ => none) (fun _ x => Int.rec (motive := fun _ => Option Nat) (fun n => some n) (fun _ => none) x) (fun _ => none) none s
theorem natOf_some {a : AV} {j : Nat} (h : natOf a.sv = some j) : ∃ k, a = .v (.int k (j : Int)) := by
  cases hs : a.sv with
  | i k x =>
    rw [hs] at h
    cases x with
    | ofNat n => injection h with h; subst h; exact ⟨k, sv_i hs⟩
    | negSucc n => cases h
  | b => rw [hs] at h; cases h
  | s => rw [hs] at h; cases h
  | no => rw [hs] at h; cases h
def bndN (h : Nat → Option AV) (o : Option Nat) : Option AV := Option.rec (motive := fun _ => Option AV) none h o
theorem bndN_some {h : Nat → Option AV} {o : Option Nat} {r : AV} (e : bndN h o = some r) : ∃ a, o = some a ∧ h a = some r := by
  cases o with
  | none => cases e
  | some a => exact ⟨a, rfl, e⟩
def iaddrS (n : Nat) (gx gi : GB) : VB := ⟨fun f _ => bnd (fun a => bnd (fun b => bndN (rowAt n a) (natOf b.sv)) (gi.g f)) (gx.g f)⟩
def arrAt (len n : Nat) (a : AV) (j : Nat) : Option AV := Bool.rec (motive := fun _ => Option AV) none (shiftR (Nat.mul j n) a) (Nat.ble (Nat.succ j) len)
def iaddrA (len n : Nat) (gx gi : GB) : VB := ⟨fun f _ => bnd (fun a => bnd (fun b => bndN (arrAt len n a) (natOf b.sv)) (gi.g f)) (gx.g f)⟩
def iaddrV (P : Program) (t : TypeId) (gx gi : GB) : VB := match elemT P t with
  | some (none, e) => match sizeT P e with
    | some n => iaddrS n gx gi
    | none => failV
  | some (some len, e) => match sizeT P e with
    | some n => iaddrA len n gx gi
    | none => failV
  | none => failV
theorem iaddrV_ok {E : Env} {o : Oper} {t : TypeId} {x i : Operand} (ho : o.op = .indexAddr t x i) : VOk E o (iaddrV E.P t (opG E.G x) (opG E.G i)) := fun f S a h => by
  unfold iaddrV at h
  simp only [exec1, ho]
  split at h
  · rename_i e he
    split at h
    · rename_i n hs
      obtain ⟨b, h1, h2⟩ := bnd_some h
      obtain ⟨c, h3, h4⟩ := bnd_some h2
      obtain ⟨j, h5, h6⟩ := bndN_some h4
      rw [opG_ok] at h1 h3
      obtain ⟨k, rfl⟩ := natOf_some h5
      rw [h1, h3]
      rcases rowAt_some h6 with ⟨tok, off, es, y, rfl, h7, rfl⟩ | ⟨id, off, len, rfl, h7, rfl⟩
      · simp only [oIndexAddr, he, hs, if_pos (show (0 : Int) ≤ (j : Int) by omega), Int.toNat_natCast, h7, beq_self_eq_true, if_true, ofOpt]
      · simp only [oIndexAddr, he, hs, if_pos (show (0 : Int) ≤ (j : Int) by omega), Int.toNat_natCast, beq_self_eq_true, Bool.true_and, decide_eq_true_eq, if_pos (show (j : Int) < (len : Int) by omega), ofOpt]
    · cases h
  · rename_i len e he
    split at h
    · rename_i n hs
      obtain ⟨b, h1, h2⟩ := bnd_some h
      obtain ⟨c, h3, h4⟩ := bnd_some h2
      obtain ⟨j, h5, h6⟩ := bndN_some h4
      rw [opG_ok] at h1 h3
      obtain ⟨k, rfl⟩ := natOf_some h5
      unfold arrAt at h6
      cases hb : Nat.ble (Nat.succ j) len with
      | false => rw [hb] at h6; cases h6
      | true =>
        rw [hb] at h6
        have h7 := shiftR_some h6
        have hlt : (j : Int) < (len : Int) := by have := Nat.le_of_ble_eq_true hb; omega
        rw [h1, h3]
        simp only [oIndexAddr, he, hs, if_pos (show (0 : Int) ≤ (j : Int) by omega), Int.toNat_natCast, if_pos hlt]
        have h8 : shift b (j * n) = some a := h7
        rw [h8]; rfl
    · cases h
  · cases h
def byteO (o : Option UInt8) : Option AV := Option.rec (motive := fun _ => Option AV) none (fun b => some (.v (.int .u8 (.ofNat b.toNat)))) o
def strAt (a : AV) (j : Nat) : Option AV := SV.rec (motive := fun _ => Nat → Option AV) (fun _ _ => none) (fun _ _ _ => none) (fun l j => byteO (atR j l)) (fun _ => none) a.sv j
def indexS (gx gi : GB) : VB := ⟨fun f _ => bnd (fun a => bnd (fun b => bndN (strAt a) (natOf b.sv)) (gi.g f)) (gx.g f)⟩
def indexV (E : Env) (o : Oper) (t : TypeId) (gx gi : GB) : VB := match E.P.underlying t with
  | some .string => indexS gx gi
  | _ => slowV E o
theorem indexV_ok {E : Env} {o : Oper} {t : TypeId} {x i : Operand} (ho : o.op = .index t x i) : VOk E o (indexV E o t (opG E.G x) (opG E.G i)) := by
  unfold indexV
  split
  · rename_i ht
    intro f S a h
    simp only [exec1, ho]
    obtain ⟨b, h1, h2⟩ := bnd_some h
    obtain ⟨c, h3, h4⟩ := bnd_some h2
    obtain ⟨j, h5, h6⟩ := bndN_some h4
    rw [opG_ok] at h1 h3
    obtain ⟨k, rfl⟩ := natOf_some h5
    unfold strAt at h6
    cases hs : b.sv with
    | s l =>
      rw [hs] at h6
      obtain ⟨s, rfl, rfl⟩ := sv_s hs
      have h6 : byteO (atR j s.data.toList) = some a := h6
      rw [atR_eq] at h6
      cases hq : s.data.toList[j]? with
      | none => rw [hq] at h6; cases h6
      | some u =>
        rw [hq] at h6
        injection h6 with h6; subst h6
        rw [h1, h3]
        simp only [fastIndex, ht, if_pos (show (0 : Int) ≤ (j : Int) by omega), Int.toNat_natCast, hq]
        rfl
    | b => rw [hs] at h6; cases h6
    | i => rw [hs] at h6; cases h6
    | no => rw [hs] at h6; cases h6
  · exact slowV_ok (by simp [isLook, ho])
/-- Two numbers, two texts. -/
def ib2 (h : IntKind → Int → Int → AV) (k : IntKind) (x : Int) (s : SV) : Option AV := SV.rec (motive := fun _ => Option AV) (fun _ => none) (fun k' y => Bool.rec (motive := fun _ => Option AV) none (some (h k x y)) (eqK k k')) (fun _ => none) none s
def ib (h : IntKind → Int → Int → AV) (a b : AV) : Option AV := SV.rec (motive := fun _ => SV → Option AV) (fun _ _ => none) (ib2 h) (fun _ _ => none) (fun _ => none) a.sv b.sv
theorem ib_some {h : IntKind → Int → Int → AV} {a b r : AV} (e : ib h a b = some r) : ∃ k x y, a = .v (.int k x) ∧ b = .v (.int k y) ∧ r = h k x y := by
  unfold ib at e
  cases ha : a.sv with
  | i k x =>
    rw [ha] at e
    have e : ib2 h k x b.sv = some r := e
    unfold ib2 at e
    cases hb : b.sv with
    | i k' y =>
      rw [hb] at e
      have e : Bool.rec (motive := fun _ => Option AV) none (some (h k x y)) (eqK k k') = some r := e
      cases hk : eqK k k' with
      | false => rw [hk] at e; cases e
      | true =>
        rw [hk] at e
        have e3 : some (h k x y) = some r := e
        injection e3 with e4
        have hkk := eqK_eq hk
        subst hkk
        exact ⟨k, x, y, sv_i ha, sv_i hb, e4.symm⟩
    | b => rw [hb] at e; cases e
    | s => rw [hb] at e; cases e
    | no => rw [hb] at e; cases e
  | b => rw [ha] at e; cases e
  | s => rw [ha] at e; cases e
  | no => rw [ha] at e; cases e
def sb2 (h : List UInt8 → List UInt8 → AV) (l : List UInt8) (s : SV) : Option AV := SV.rec (motive := fun _ => Option AV) (fun _ => none) (fun _ _ => none) (fun m => some (h l m)) none s
def isb (h : IntKind → Int → Int → AV) (h' : List UInt8 → List UInt8 → AV) (a b : AV) : Option AV := SV.rec (motive := fun _ => SV → Option AV) (fun _ _ => none) (ib2 h) (sb2 h') (fun _ => none) a.sv b.sv
theorem isb_some {h : IntKind → Int → Int → AV} {h' : List UInt8 → List UInt8 → AV} {a b r : AV} (e : isb h h' a b = some r) : (∃ k x y, a = .v (.int k x) ∧ b = .v (.int k y) ∧ r = h k x y) ∨ ∃ s u : ByteArray, a = .v (.string s) ∧ b = .v (.string u) ∧ r = h' s.data.toList u.data.toList := by
  unfold isb at e
  cases ha : a.sv with
  | i k x =>
    rw [ha] at e
    exact .inl (ib_some (h := h) (by unfold ib; rw [ha]; exact e))
  | s l =>
    rw [ha] at e
    have e : sb2 h' l b.sv = some r := e
    unfold sb2 at e
    cases hb : b.sv with
    | s m =>
      rw [hb] at e
      injection e with e
      obtain ⟨s, rfl, rfl⟩ := sv_s ha
      obtain ⟨u, rfl, rfl⟩ := sv_s hb
      exact .inr ⟨s, u, rfl, rfl, e.symm⟩
    | b => rw [hb] at e; cases e
    | i => rw [hb] at e; cases e
    | no => rw [hb] at e; cases e
  | b => rw [ha] at e; cases e
  | no => rw [ha] at e; cases e
def hAdd (k : IntKind) (x y : Int) : AV := .v (.int k (wrapR k (addI x y)))
def hSub (k : IntKind) (x y : Int) : AV := .v (.int k (wrapR k (subI x y)))
def hEql (_ : IntKind) (x y : Int) : AV := .v (.bool (eqI x y))
def hNeq (_ : IntKind) (x y : Int) : AV := .v (.bool (notR (eqI x y)))
def hLss (_ : IntKind) (x y : Int) : AV := .v (.bool (ltI x y))
def hGtr (_ : IntKind) (x y : Int) : AV := .v (.bool (ltI y x))
def hLeq (_ : IntKind) (x y : Int) : AV := .v (.bool (notR (ltI y x)))
def hGeq (_ : IntKind) (x y : Int) : AV := .v (.bool (notR (ltI x y)))
def hEqS (l m : List UInt8) : AV := .v (.bool (eqBytes l m))
def hNeS (l m : List UInt8) : AV := .v (.bool (notR (eqBytes l m)))
def bin2 (h : AV → AV → Option AV) (sl : VB) (gx gy : GB) : VB := ⟨fun f S => bnd (fun a => bnd (fun b => Option.rec (motive := fun _ => Option AV) (sl.v f S) (fun r => some r) (h a b)) (gy.g f)) (gx.g f)⟩
def binV (E : Env) (o : Oper) (op : BinOp) (gx gy : GB) : VB := match op with
  | .add => bin2 (ib hAdd) (slowV E o) gx gy
  | .sub => bin2 (ib hSub) (slowV E o) gx gy
  | .lss => bin2 (ib hLss) (slowV E o) gx gy
  | .gtr => bin2 (ib hGtr) (slowV E o) gx gy
  | .leq => bin2 (ib hLeq) (slowV E o) gx gy
  | .geq => bin2 (ib hGeq) (slowV E o) gx gy
  | .eql => bin2 (isb hEql hEqS) (slowV E o) gx gy
  | .neq => bin2 (isb hNeq hNeS) (slowV E o) gx gy
  | _ => slowV E o
theorem bin2_ok {E : Env} {o : Oper} {op : BinOp} {t u : TypeId} {x y : Operand} {h : AV → AV → Option AV} (ho : o.op = .binOp op t x y u) (hh : ∀ a b r, h a b = some r → fastBin op a b = some r) : VOk E o (bin2 h (slowV E o) (opG E.G x) (opG E.G y)) := fun f S a e => by
  obtain ⟨b, h1, h2⟩ := bnd_some e
  obtain ⟨c, h3, h4⟩ := bnd_some h2
  cases hq : h b c with
  | none =>
    rw [hq] at h4
    exact slowV_ok (by simp [isLook, ho]) f S a h4
  | some r =>
    rw [hq] at h4
    injection h4 with h4; subst h4
    have hf := hh b c _ hq
    rw [opG_ok] at h1 h3
    simp only [exec1, ho, h1, h3, neNil_fast hf, hf]
    rfl
theorem not_lt_le (x y : Int) : (!decide (y < x)) = decide (x ≤ y) := by
  by_cases h : y < x
  · rw [decide_eq_true h, decide_eq_false (by omega)]; rfl
  · rw [decide_eq_false h, decide_eq_true (by omega)]; rfl
theorem binV_ok {E : Env} {o : Oper} {op : BinOp} {t u : TypeId} {x y : Operand} (ho : o.op = .binOp op t x y u) : VOk E o (binV E o op (opG E.G x) (opG E.G y)) := by
  unfold binV
  split
  · refine bin2_ok ho fun a b r h => ?_
    obtain ⟨k, x, y, rfl, rfl, rfl⟩ := ib_some h
    simp [fastBin, hAdd, wrapR_eq, addI_eq]
  · refine bin2_ok ho fun a b r h => ?_
    obtain ⟨k, x, y, rfl, rfl, rfl⟩ := ib_some h
    simp [fastBin, hSub, wrapR_eq, subI_eq]
  · refine bin2_ok ho fun a b r h => ?_
    obtain ⟨k, x, y, rfl, rfl, rfl⟩ := ib_some h
    simp [fastBin, hLss, ltI_eq]
  · refine bin2_ok ho fun a b r h => ?_
    obtain ⟨k, x, y, rfl, rfl, rfl⟩ := ib_some h
    simp [fastBin, hGtr, ltI_eq]
  · refine bin2_ok ho fun a b r h => ?_
    obtain ⟨k, x, y, rfl, rfl, rfl⟩ := ib_some h
    simp only [fastBin, hLeq, ltI_eq, notR_eq, not_lt_le, if_true]
  · refine bin2_ok ho fun a b r h => ?_
    obtain ⟨k, x, y, rfl, rfl, rfl⟩ := ib_some h
    simp only [fastBin, hGeq, ltI_eq, notR_eq, not_lt_le, if_true]
  · refine bin2_ok ho fun a b r h => ?_
    rcases isb_some h with ⟨k, x, y, rfl, rfl, rfl⟩ | ⟨s, u, rfl, rfl, rfl⟩
    · simp [fastBin, hEql, eqI_eq]
    · simp [fastBin, hEqS]
  · refine bin2_ok ho fun a b r h => ?_
    rcases isb_some h with ⟨k, x, y, rfl, rfl, rfl⟩ | ⟨s, u, rfl, rfl, rfl⟩
    · simp only [fastBin, hNeq, eqI_eq, notR_eq, if_true]; rfl
    · simp only [fastBin, hNeS, notR_eq]
  · exact slowV_ok (by simp [isLook, ho])
/-- The rest. -/
def tupAt (i : Nat) (a : AV) : Option AV := PV.rec (motive := fun _ => Nat → Option AV) (fun _ _ _ => none) (fun _ _ => none) (fun _ => none) (fun _ _ _ _ _ => none) (fun _ _ => none) (fun cs i => atR i cs) (fun _ => none) (fun _ _ _ _ _ => none) a.pv i
def extrV (i : Nat) (g : GB) : VB := ⟨fun f _ => bnd (tupAt i) (g.g f)⟩
theorem extrV_ok {E : Env} {o : Oper} {x : Operand} {i : Nat} (ho : o.op = .extract x i) : VOk E o (extrV i (opG E.G x)) := fun f S a h => by
  obtain ⟨b, h1, h2⟩ := bnd_some h
  rw [opG_ok] at h1
  unfold tupAt at h2
  cases hp : b.pv with
  | t cs =>
    rw [hp] at h2
    have h2 : atR i cs = some a := h2
    rw [atR_eq] at h2
    rw [pv_t hp] at h1
    simp only [exec1, ho, h1, oExtract, h2, ofOpt]
  | p => rw [hp] at h2; cases h2
  | e => rw [hp] at h2; cases h2
  | n => rw [hp] at h2; cases h2
  | l => rw [hp] at h2; cases h2
  | a => rw [hp] at h2; cases h2
  | no => rw [hp] at h2; cases h2
  | w => rw [hp] at h2; cases h2
def makeIB (t : TypeId) (g : GB) : VB := ⟨fun f _ => bnd (fun a => some (.iface t a)) (g.g f)⟩
def makeIV (P : Program) (t : TypeId) (g : GB) : VB := match P.underlying t with
  | some (.interface _) => failV
  | some _ => makeIB t g
  | none => failV
theorem makeIV_ok {E : Env} {o : Oper} {x : Operand} {t : TypeId} (ho : o.op = .makeInterface t x) : VOk E o (makeIV E.P t (opG E.G x)) := by
  unfold makeIV
  split
  · exact failV_ok
  · rename_i d hne ht
    intro f S a h
    obtain ⟨b, h1, h2⟩ := bnd_some h
    rw [opG_ok] at h1
    injection h2 with h2; subst h2
    simp only [exec1, ho, h1, oMakeI, ht]
    cases d with
    | interface ms => exact (hne ms rfl).elim
    | _ => rfl
  · exact failV_ok
def pick1 (a b : Option AV) (s : SV) : Option AV := SV.rec (motive := fun _ => Option AV → Option AV → Option AV) (fun c a b => Bool.rec (motive := fun _ => Option AV) b a c) (fun _ _ _ _ => none) (fun _ _ _ => none) (fun _ _ => none) s a b
def pickV (gc ga gb : GB) : VB := ⟨fun f _ => bnd (fun c => pick1 (ga.g f) (gb.g f) c.sv) (gc.g f)⟩
theorem pickV_ok {E : Env} {o : Oper} {c x y : Operand} (ho : o.op = .pick c x y) : VOk E o (pickV (opG E.G c) (opG E.G x) (opG E.G y)) := fun f S a h => by
  obtain ⟨b, h1, h2⟩ := bnd_some h
  rw [opG_ok] at h1
  rw [opG_ok, opG_ok] at h2
  unfold pick1 at h2
  cases hs : b.sv with
  | b c =>
    rw [hs] at h2
    rw [sv_b hs] at h1
    simp only [exec1, ho, h1]
    cases c with
    | true => have h2 : evalO E.G f x = some a := h2; simp only [h2, ofOpt]
    | false => have h2 : evalO E.G f y = some a := h2; simp only [h2, ofOpt]
  | i => rw [hs] at h2; cases h2
  | s => rw [hs] at h2; cases h2
  | no => rw [hs] at h2; cases h2
end Go.Ax
