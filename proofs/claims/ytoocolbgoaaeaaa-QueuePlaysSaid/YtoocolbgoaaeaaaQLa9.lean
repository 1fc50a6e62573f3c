/-
  What an operation makes of an abstract state, whatever operation it is; that it does so.
-/
import Derived.Test.YtoocolbgoaaeaaaQKa
import Derived.Tactics
noncomputable section
namespace Go.Ax
open Go.RowKit
set_option linter.unusedVariables false
set_option linter.unusedSimpArgs false

/-- A program, its functions, what lies at its variables. -/
inductive R where
  | ret (a : AV) (S : St)
  | pan (a : AV) (S : St)
  | fail
/-- A program, its functions, what lies at its variables; functions of which one knows by other means what they answer. -/
structure Env where
  P : Program
  G : Gl
  F : FuncId → Option Func
  I : FuncId → Option (List AV → St → R) := fun _ => none
  M : TypeId → Nat := fun _ => 0
structure Env.Ok (E : Env) : Prop where
  fn : ∀ k fn, E.F k = some fn → E.P.funcs[k]? = some fn ∧ (fn.name == "runtime.NumGoroutine") = false ∧ ∃ c, fn.body = some c
def ofOpt (S : St) : Option AV → OR
  | some a => .val a S
  | none => .fail
def ofOptS : Option (AV × St) → OR
  | some (a, S) => .val a S
  | none => .fail
def partsA (G : Gl) (f : T AV) : List (Nat × Operand) → Option (List (Nat × AV))
  | [] => some []
  | (i, x) :: r => match evalO G f x with
    | some a => match partsA G f r with
      | some l => some ((i, a) :: l)
      | none => none
    | none => none
/-- An append, to a row that stays as it is, or to one that is stored into (of a type that is named so). -/
def appendE (E : Env) (S : St) (t tx : TypeId) (a b : AV) : Option (AV × St) := match E.M t with
  | 0 => oAppend E.P S t tx a b
  | n + 1 => match oAppendM E.P S t tx (Nat.beq n 1) a b with
    | some r => some r
    | none => oAppend E.P S t tx a b
def callA (E : Env) (f : T AV) (S : St) (c : Call) (o : Oper) : OR :=
  match c.callee with
  | .builtin .append => match c.args.toList, c.argTypes.toList with
    | [s, x], [t, tx] => match evalO E.G f s, evalO E.G f x with
      | some a, some b => ofOptS (appendE E S t tx a b)
      | _, _ => .fail
    | _, _ => .fail
  | .builtin .copy => match c.args.toList, c.argTypes.toList with
    | [s, x], [t, _] => match evalO E.G f s, evalO E.G f x with
      | some a, some b => ofOptS (oCopy E.P S t a b)
      | _, _ => .fail
    | _, _ => .fail
  | .builtin .len => match c.args.toList, c.argTypes.toList with
    | [x], [t] => match evalO E.G f x with
      | some a => match oLen E.P S t a with
        | some n => .val (.v (.int .i64 n)) S
        | none => .fail
      | none => .fail
    | _, _ => .fail
  | .builtin _ => ground E.P E.G f S o
  | .value fo => match evalO E.G f fo with
    | some (.fn (.func k) first caps) => match mapO (evalO E.G f) c.args.toList with
      | some args => match E.F k with
        | some _ => .enter k (first ++ args ++ caps) S
        | none => .fail
      | none => .fail
    | _ => .fail
  | _ => .fail
def deferA (E : Env) (f : T AV) (S : St) (c : Call) : OR :=
  match c.callee with
  | .value fo => match evalO E.G f fo with
    | some (.fn fn first caps) => match mapO (evalO E.G f) c.args.toList with
      | some args => .dfr fn caps (first ++ args) S
      | none => .fail
    | _ => .fail
  | _ => .fail
def eqOr (P : Program) (G : Gl) (f : T AV) (S : St) (o : Oper) (op : BinOp) (t : TypeId) (a b : AV) : OR := match fastEq P op t a b with
  | some r => .val r S
  | none => ground P G f S o
theorem eqOr_ne {P : Program} {G : Gl} {f : T AV} {S : St} {o : Oper} {op : BinOp} {t : TypeId} {a b : AV} : (∃ r, eqOr P G f S o op t a b = .val r S) ∨ eqOr P G f S o op t a b = .fail := by
  unfold eqOr
  split
  · exact .inl ⟨_, rfl⟩
  · exact ground_ne
def slice3A (E : Env) (f : T AV) (t : TypeId) (x : Operand) (lo hi : Option Operand) (m : Operand) : Option AV := match lo, hi with
  | none, some h => match evalO E.G f x, evalO E.G f h, evalO E.G f m with
    | some a, some b, some c => oSlice3 E.P t a b c
    | _, _, _ => none
  | _, _ => none
def exec1 (E : Env) (f : T AV) (S : St) (o : Oper) : OR :=
  match o.op with
  | .move x => ofOpt S (evalO E.G f x)
  | .assign x => ofOpt S (evalO E.G f x)
  | .pick c a b => match evalO E.G f c with
    | some (.v (.bool true)) => ofOpt S (evalO E.G f a)
    | some (.v (.bool false)) => ofOpt S (evalO E.G f b)
    | _ => .fail
  | .alloc e => ofOptS (oAlloc E.P S e)
  | .box e x => match evalO E.G f x with
    | some a => if a.noTup then .val (.ptr S.next 0) (S.newBox a.cells) else .fail
    | none => .fail
  | .build t parts => match partsA E.G f parts.toList with
    | some ps => ofOpt S (oBuild E.P t ps)
    | none => .fail
  | .buildSlice t len parts => match partsA E.G f parts.toList with
    | some ps => ofOpt S (oBuildSlice E.P t len ps)
    | none => .fail
  | .load t x => match evalO E.G f x with
    | some a => ofOpt S (oLoad E.P S t a)
    | none => .fail
  | .store t x y => match evalO E.G f x, evalO E.G f y with
    | some a, some b => match oStore E.P S t a b with
      | some S' => .skip S'
      | none => .fail
    | _, _ => .fail
  | .nilCheck x => match evalO E.G f x with
    | some (.ptr id off) => .val (.ptr id off) S
    | some (.ep cs) => .val (.ep cs) S
    | some (.fn (.func k) a b) => .val (.fn (.func k) a b) S
    | some (.iface t a) => .val (.iface t a) S
    | _ => .fail
  | .makeInterface t x => match evalO E.G f x with
    | some a => ofOpt S (oMakeI E.P t a)
    | none => .fail
  | .makeFunc fn first caps => match mapO (evalO E.G f) first.toList, mapO (evalO E.G f) caps.toList with
    | some a, some b => .val (.fn fn a b) S
    | _, _ => .fail
  | .makeMap _ none => ofOptS (some (oMakeMap S))
  | .makeSlice t l c => match evalO E.G f l, evalO E.G f c with
    | some a, some b => ofOptS (oMake E.P S t a b)
    | _, _ => .fail
  | .slice t x lo hi none => match evalO E.G f x with
    | some (.sl tok off sz es) => match mapO (evalO E.G f) lo.toList, mapO (evalO E.G f) hi.toList with
      | some l, some h => ofOpt S (oSlice E.P t (.sl tok off sz es) l.head? h.head?)
      | _, _ => .fail
    | some .nils => match mapO (evalO E.G f) lo.toList, mapO (evalO E.G f) hi.toList with
      | some l, some h => ofOpt S (oSlice E.P t .nils l.head? h.head?)
      | _, _ => .fail
    | some (.v s) => match mapO (evalO E.G f) lo.toList, mapO (evalO E.G f) hi.toList with
      | some l, some h => ofOpt S (fastSlice E.P t (.v s) l.head? h.head?)
      | _, _ => .fail
    | _ => .fail
  | .slice t x lo hi (some m) => ofOpt S (slice3A E f t x lo hi m)
  | .fieldAddr s x i => match evalO E.G f x with
    | some a => ofOpt S (oFieldAddr E.P s a i)
    | none => .fail
  | .field t x i => match evalO E.G f x with
    | some a => ofOpt S (oField E.P t a i)
    | none => .fail
  | .indexAddr t x i => match evalO E.G f x, evalO E.G f i with
    | some a, some b => ofOpt S (oIndexAddr E.P t a b)
    | _, _ => .fail
  | .lookup t m k ok => match evalO E.G f m, evalO E.G f k with
    | some a, some b => ofOpt S (oLookup E.P S t a b ok)
    | _, _ => .fail
  | .mapUpdate t m k x => match evalO E.G f m, evalO E.G f k, evalO E.G f x with
    | some a, some b, some c => match oMapUpdate E.P S t a b c with
      | some S' => .skip S'
      | none => .fail
    | _, _, _ => .fail
  | .insert t m k x => match evalO E.G f m, evalO E.G f k, evalO E.G f x with
    | some a, some b, some c => match oMapUpdate E.P S t a b c with
      | some S' => .skip S'
      | none => .fail
    | _, _, _ => .fail
  | .typeAssert x xt t ok => match evalO E.G f x with
    | some a => ofOpt S (oAssert E.P t ok a)
    | none => .fail
  | .extract t i => match evalO E.G f t with
    | some a => ofOpt S (oExtract a i)
    | none => .fail
  | .binOp op t x y _ => match evalO E.G f x, evalO E.G f y with
    | some a, some b => if neNil E.P t a b then (match op with
        | .eql => .val (.v (.bool false)) S
        | .neq => .val (.v (.bool true)) S
        | _ => .fail) else match fastBin op a b with
        | some r => .val r S
        | none => eqOr E.P E.G f S o op t a b
    | _, _ => .fail
  | .call c => callA E f S c o
  | .defer c => deferA E f S c
  | .panic x => match evalO E.G f x with
    | some (.iface t a) => .pan (.iface t a) S
    | _ => .fail
  | .unOp _ _ _ => ground E.P E.G f S o
  | .convert src dst x => match evalO E.G f x with
    | some a => match oConvert E.P src dst a with
      | some r => .val r S
      | none => ground E.P E.G f S o
    | none => .fail
  | .index t x i => match evalO E.G f x, evalO E.G f i with
    | some a, some b => match fastIndex E.P t a b with
      | some r => .val r S
      | none => ground E.P E.G f S o
    | _, _ => .fail
  | _ => .fail

def OkO (E : Env) (base : Nat) (w0 : World) (γ : Gh) (S : St) (w : World) (act : Act) (o : Oper) : OR → Prop
  | .val a S' => ∃ v w' γ', (execOp act.eval o).run E.P w = .ok (.value v) w' ∧ SR base w0 γ' S' w' ∧ Ext γ S w γ' S' w' ∧ VR γ' w' a v
  | .skip S' => ∃ w' γ', (execOp act.eval o).run E.P w = .ok .skip w' ∧ SR base w0 γ' S' w' ∧ Ext γ S w γ' S' w'
  | .enter k args S' => S' = S ∧ (E.F k).isSome = true ∧ ∃ vs : List Value, (execOp act.eval o).run E.P w = .ok (.enter k vs.toArray) w ∧ VRL γ w args vs
  | .dfr fn caps args S' => S' = S ∧ ∃ cv av : List Value, (execOp act.eval o).run E.P w = .ok (.defer { target := .fn fn cv.toArray, args := av.toArray }) w ∧ VRL γ w caps cv ∧ VRL γ w args av
  | .pan a S' => S' = S ∧ ∃ v, (execOp act.eval o).run E.P w = .halt (.panic v) w ∧ VR γ w a v
  | .fail => True
section
variable {E : Env} {base : Nat} {w0 : World} {γ : Gh} {S : St} {w : World} {f : T AV} {act : Act} {o : Oper}
theorem OkO.ofOpt {s : Sem Value} (he : (execOp act.eval o) = (do pure (.value (← s)))) {r : Option AV} (h : ∀ a, r = some a → OkV E.P base w0 γ S w s a S) : OkO E base w0 γ S w act o (ofOpt S r) := by
  cases r with
  | none => trivial
  | some a =>
    obtain ⟨v, w', γ', hr, h1, h2, h3⟩ := h a rfl
    exact ⟨v, w', γ', by rw [he]; simp [hr], h1, h2, h3⟩
theorem OkO.ofOptS {s : Sem Value} (he : (execOp act.eval o) = (do pure (.value (← s)))) {r : Option (AV × St)} (h : ∀ a S', r = some (a, S') → OkV E.P base w0 γ S w s a S') : OkO E base w0 γ S w act o (ofOptS r) := by
  cases r with
  | none => trivial
  | some p =>
    obtain ⟨a, S'⟩ := p
    obtain ⟨v, w', γ', hr, h1, h2, h3⟩ := h a S' rfl
    exact ⟨v, w', γ', by rw [he]; simp [hr], h1, h2, h3⟩
theorem OkO.ofVal {a : AV} {v : Value} (hS : SR base w0 γ S w) (he : (execOp act.eval o).run E.P w = .ok (.value v) w) (hv : VR γ w a v) : OkO E base w0 γ S w act o (.val a S) := ⟨v, w, γ, he, hS, .refl _ _ _, hv⟩
theorem OkO.ground (hS : SR base w0 γ S w) (hf : FR γ w f act.tmps) (hg : GR γ w E.G) (hs : Op.noSel o.op = true) : OkO E base w0 γ S w act o (ground E.P E.G f S o) := by
  rcases ground_ne (P := E.P) (G := E.G) (f := f) (S := S) (o := o) with ⟨a, ha⟩ | hfail
  · obtain ⟨_, v, hr, hv⟩ := ground_sound hf hg hs ha
    rw [ha]
    exact OkO.ofVal hS hr hv
  · rw [hfail]; trivial
theorem mapO_eval (hf : FR γ w f act.tmps) (hg : GR γ w E.G) {xs : List Operand} {as : List AV} (h : mapO (evalO E.G f) xs = some as) : VRL γ w as (xs.map act.eval) := by
  obtain ⟨h1, h2⟩ := mapO_spec h
  exact ⟨by simp [h1], fun k hk hk' => by
    have := evalO_sound hf hg (h2 k (by omega) hk)
    simpa using this⟩
theorem partsA_sound (hf : FR γ w f act.tmps) (hg : GR γ w E.G) : ∀ {l : List (Nat × Operand)} {ps : List (Nat × AV)}, partsA E.G f l = some ps →
    (l.map fun p => (p.1, act.eval p.2)).map (·.1) = ps.map (·.1) ∧ VRL γ w (ps.map (·.2)) ((l.map fun p => (p.1, act.eval p.2)).map (·.2))
  | [], ps, h => by injection h with h; subst h; exact ⟨rfl, VRL.nil γ w⟩
  | (i, x) :: r, ps, h => by
    unfold partsA at h
    split at h
    · rename_i a ha
      split at h
      · rename_i l hl
        injection h with h; subst h
        obtain ⟨h1, h2⟩ := partsA_sound hf hg hl
        exact ⟨by simp only [List.map_cons, h1], VRL.cons (evalO_sound hf hg ha) h2⟩
      · cases h
    · cases h
theorem opt_eval (hf : FR γ w f act.tmps) (hg : GR γ w E.G) {x : Option Operand} {l : List AV} (h : mapO (evalO E.G f) x.toList = some l) :
    (∀ a, l.head? = some a → ∃ v, x.map act.eval = some v ∧ VR γ w a v) ∧ (l.head? = none → x.map act.eval = none) := by
  have := mapO_eval hf hg h
  cases x with
  | none =>
    have hl : l = [] := List.eq_nil_of_length_eq_zero (by have := this.1; simpa using this.symm)
    subst hl
    exact ⟨fun a h => (by cases h), fun _ => rfl⟩
  | some x =>
    cases l with
    | nil => have := this.1; simp at this
    | cons a l =>
      obtain ⟨y, ys, hy, hv, _⟩ := this.head
      simp at hy
      refine ⟨fun b hb => ?_, fun h => by simp at h⟩
      simp at hb; subst hb
      exact ⟨y, by simp [hy.1], hv⟩
theorem list2 {α : Type} {a : Array α} {x y : α} (h : a.toList = [x, y]) : a = #[x, y] := by
  rw [← Array.toArray_toList (xs := a), h]
theorem list1 {α : Type} {a : Array α} {x : α} (h : a.toList = [x]) : a = #[x] := by
  rw [← Array.toArray_toList (xs := a), h]
theorem callA_sound (hE : E.Ok) (hS : SR base w0 γ S w) (hf : FR γ w f act.tmps) (hg : GR γ w E.G) {c : Call} (ho : o.op = .call c) : OkO E base w0 γ S w act o (callA E f S c o) := by
  unfold callA
  split
  · rename_i hc
    split
    · rename_i s x t tx hargs htys
      split
      · rename_i a b ha hb
        refine OkO.ofOptS (s := Builtin.append_ c.argTypes o.type (c.args.map act.eval)) (by simp [execOp, ho, resolve, hc, invoke, builtin]) fun r S' hr => ?_
        rw [list2 hargs, list2 htys]
        have : OkV E.P base w0 γ S w (Builtin.append_ #[t, tx] o.type #[act.eval s, act.eval x]) r S' := by
          unfold appendE at hr
          split at hr
          · exact oAppend_sound (ty := o.type) hS (evalO_sound hf hg ha) (evalO_sound hf hg hb) hr
          · split at hr
            · rename_i hm; injection hr with hr; subst hr
              exact oAppendM_sound (ty := o.type) hS (evalO_sound hf hg ha) (evalO_sound hf hg hb) hm
            · exact oAppend_sound (ty := o.type) hS (evalO_sound hf hg ha) (evalO_sound hf hg hb) hr
        simpa using this
      · trivial
    · trivial
  · rename_i hc
    split
    · rename_i s x t tx hargs htys
      split
      · rename_i a b ha hb
        refine OkO.ofOptS (s := Builtin.copy_ c.argTypes o.type (c.args.map act.eval)) (by simp [execOp, ho, resolve, hc, invoke, builtin]) fun r S' hr => ?_
        rw [list2 hargs, list2 htys]
        simpa using oCopy_sound (tx := tx) (ty := o.type) hS (evalO_sound hf hg ha) (evalO_sound hf hg hb) hr
      · trivial
    · trivial
  · rename_i hc
    split
    · rename_i x t hargs htys
      split
      · rename_i a ha
        split
        · rename_i n hn
          have := oLen_sound (ty := o.type) hS (evalO_sound hf hg ha) hn
          refine OkO.ofVal hS (v := goInt n) ?_ (.v _ rfl)
          simp [execOp, ho, resolve, hc, invoke, builtin, list1 hargs, list1 htys, this]
        · trivial
      · trivial
    · trivial
  · exact OkO.ground hS hf hg (by rw [ho]; rfl)
  · rename_i fo hc
    split
    · rename_i k first caps hfo
      split
      · rename_i args hargs
        split
        · rename_i fn hfn
          have hv := evalO_sound hf hg hfo
          obtain ⟨h1, h2, body, h3⟩ := hE.fn k fn hfn
          generalize hq : act.eval fo = q at hv
          cases hv with
          | fn _ _ _ x y hx hy hx1 hy1 =>
          refine ⟨rfl, by rw [hfn]; rfl, x ++ c.args.toList.map act.eval ++ y, ?_, (VRL.append (VRL.append ⟨hx, hx1⟩ (mapO_eval hf hg hargs)) ⟨hy, hy1⟩)⟩
          have h2' : ¬ fn.name = "runtime.NumGoroutine" := by simpa using h2
          simp [execOp, ho, resolve, hc, hq, Deferred.ofValue, invoke, callFunc, h1, h2', h3]
        · trivial
      · trivial
    · trivial
  · trivial
theorem deferA_sound (hf : FR γ w f act.tmps) (hg : GR γ w E.G) {c : Call} (ho : o.op = .defer c) : OkO E base w0 γ S w act o (deferA E f S c) := by
  unfold deferA
  split
  · rename_i fo hc
    split
    · rename_i fn first caps hfo
      split
      · rename_i args hargs
        have hv := evalO_sound hf hg hfo
        generalize hq : act.eval fo = q at hv
        cases hv with
        | fn _ _ _ x y hx hy hx1 hy1 =>
        refine ⟨rfl, y, x ++ c.args.toList.map act.eval, ?_, ⟨hy, hy1⟩, (VRL.append ⟨hx, hx1⟩ (mapO_eval hf hg hargs))⟩
        simp [execOp, ho, resolve, hc, hq, Deferred.ofValue]
      · trivial
    · trivial
  · trivial
theorem exec1_sound (hE : E.Ok) (hS : SR base w0 γ S w) (hf : FR γ w f act.tmps) (hg : GR γ w E.G) : OkO E base w0 γ S w act o (exec1 E f S o) := by
  have ev : ∀ {x a}, evalO E.G f x = some a → VR γ w a (act.eval x) := fun h => evalO_sound hf hg h
  have hpure : ∀ {x}, (execOp act.eval o) = pure (.value (act.eval x)) → OkO E base w0 γ S w act o (ofOpt S (evalO E.G f x)) := fun {x} he => by
    cases hx : evalO E.G f x with
    | none => trivial
    | some a => exact OkO.ofVal hS (by rw [he]; rfl) (ev hx)
  unfold exec1
  split
  · rename_i x ho; exact hpure (by simp [execOp, ho])
  · rename_i x ho; exact hpure (by simp [execOp, ho])
  · rename_i c a b ho
    split
    · rename_i hc
      have hv := ev hc
      generalize hq : act.eval c = q at hv
      cases hv
      exact hpure (by simp [execOp, ho, hq, asBool])
    · rename_i hc
      have hv := ev hc
      generalize hq : act.eval c = q at hv
      cases hv
      exact hpure (by simp [execOp, ho, hq, asBool])
    · trivial
  · rename_i e ho; exact OkO.ofOptS (by simp only [execOp, ho]) fun a S' h => oAlloc_sound hS h
  · rename_i e x ho
    split
    · rename_i a ha
      split
      · rename_i hnt
        have := newBox_sound (P := E.P) hS (ev ha) hnt e
        exact OkO.ofOptS (r := some (.ptr S.next 0, S.newBox a.cells)) (s := Instr.box e (act.eval x)) (by simp only [execOp, ho]) fun a S' h => by
          injection h with h; injection h with h1 h2; subst h1; subst h2; exact this
      · trivial
    · trivial
  · rename_i t parts ho
    split
    · rename_i ps hps
      obtain ⟨h1, h2⟩ := partsA_sound hf hg hps
      exact OkO.ofOpt (s := Instr.build t (parts.map fun (i, x) => (i, act.eval x))) (by simp only [execOp, ho]) fun a h => oBuild_sound hS (by simpa using h1) (by simpa using h2) h
    · trivial
  · rename_i t len parts ho
    split
    · rename_i ps hps
      obtain ⟨h1, h2⟩ := partsA_sound hf hg hps
      exact OkO.ofOpt (s := Instr.buildSlice t len (parts.map fun (i, x) => (i, act.eval x))) (by simp only [execOp, ho]) fun a h => oBuildSlice_sound hS (by simpa using h1) (by simpa using h2) h
    · trivial
  · rename_i t x ho
    split
    · rename_i a ha; exact OkO.ofOpt (by simp only [execOp, ho]) fun r h => oLoad_sound hS (ev ha) h
    · trivial
  · rename_i t x y ho
    split
    · rename_i a b ha hb
      split
      · rename_i S' hst
        obtain ⟨w', γ', h1, h2, h3⟩ := oStore_sound hS (ev ha) (ev hb) hst
        exact ⟨w', γ', by simp [execOp, ho, h1], h2, h3⟩
      · trivial
    · trivial
  · rename_i x ho
    split
    · rename_i id off hx
      have hv := ev hx
      have hv' := hv
      generalize hq : act.eval x = q at hv hv'
      cases hv
      exact OkO.ofVal hS (by simp [execOp, ho, hq]) hv'
    · rename_i cs hx
      have hv := ev hx
      have hv' := hv
      generalize hq : act.eval x = q at hv hv'
      cases hv
      exact OkO.ofVal hS (by simp [execOp, ho, hq]) hv'
    · rename_i k a b hx
      have hv := ev hx
      have hv' := hv
      generalize hq : act.eval x = q at hv hv'
      cases hv
      exact OkO.ofVal hS (by simp [execOp, ho, hq]) hv'
    · rename_i t a hx
      have hv := ev hx
      have hv' := hv
      generalize hq : act.eval x = q at hv hv'
      cases hv
      exact OkO.ofVal hS (by simp [execOp, ho, hq]) hv'
    · trivial
  · rename_i t x ho
    split
    · rename_i a ha; exact OkO.ofOpt (by simp only [execOp, ho]) fun r h => oMakeI_sound hS (ev ha) h
    · trivial
  · rename_i fn first caps ho
    split
    · rename_i a b ha hb
      have h1 := mapO_eval hf hg ha
      have h2 := mapO_eval hf hg hb
      refine OkO.ofVal hS (v := .func fn (first.map act.eval) (caps.map act.eval)) (by simp [execOp, ho, Instr.makeFunc]) ?_
      have := VR.fn (γ := γ) (w := w) fn a b _ _ h1.1 h2.1 h1.2 h2.2
      have e : ∀ (l : Array Operand), l.map act.eval = (l.toList.map act.eval).toArray := fun l => by rw [← Array.toList_map, Array.toArray_toList]
      rw [e, e]
      exact this
    · trivial
  · rename_i t ho
    refine OkO.ofOptS (s := Instr.makeMap t none) (by simp [execOp, ho]) fun a S' h => ?_
    injection h with h
    have := oMakeMap_sound (P := E.P) hS t
    rw [h] at this
    exact this
  · rename_i t l c ho
    split
    · rename_i a b ha hb; exact OkO.ofOptS (by simp only [execOp, ho]) fun r S' h => oMake_sound hS (ev ha) (ev hb) h
    · trivial
  · rename_i t x lo hi ho
    split
    · rename_i tok off sz es hx
      split
      · rename_i l h hl hh
        obtain ⟨l1, l2⟩ := opt_eval hf hg hl
        obtain ⟨h1, h2⟩ := opt_eval hf hg hh
        exact OkO.ofOpt (s := Instr.sliceAt t (act.eval x) (lo.map act.eval) (hi.map act.eval) none) (by simp [execOp, ho]) fun r hr => oSlice_sound hS (ev hx) l1 l2 h1 h2 hr
      · trivial
    · rename_i hx
      split
      · rename_i l h hl hh
        obtain ⟨l1, l2⟩ := opt_eval hf hg hl
        obtain ⟨h1, h2⟩ := opt_eval hf hg hh
        exact OkO.ofOpt (s := Instr.sliceAt t (act.eval x) (lo.map act.eval) (hi.map act.eval) none) (by simp [execOp, ho]) fun r hr => oSlice_sound hS (ev hx) l1 l2 h1 h2 hr
      · trivial
    · rename_i s hx
      split
      · rename_i l h hl hh
        obtain ⟨l1, l2⟩ := opt_eval hf hg hl
        obtain ⟨h1, h2⟩ := opt_eval hf hg hh
        exact OkO.ofOpt (s := Instr.sliceAt t (act.eval x) (lo.map act.eval) (hi.map act.eval) none) (by simp [execOp, ho]) fun r hr => fastSlice_sound hS (ev hx) l1 l2 h1 h2 hr
      · trivial
    · trivial
  · rename_i t x lo hi m ho
    unfold slice3A
    cases lo with
    | some l => trivial
    | none =>
      cases hi with
      | none => trivial
      | some h =>
        simp only
        split
        · rename_i a b c hx hh hm
          exact OkO.ofOpt (s := Instr.sliceAt t (act.eval x) none (some (act.eval h)) (some (act.eval m))) (by simp [execOp, ho]) fun r hr => oSlice3_sound hS (ev hx) (ev hh) (ev hm) hr
        · trivial
  · rename_i s x i ho
    split
    · rename_i a ha; exact OkO.ofOpt (by simp only [execOp, ho]) fun r h => oFieldAddr_sound hS (ev ha) h
    · trivial
  · rename_i t x i ho
    split
    · rename_i a ha; exact OkO.ofOpt (by simp only [execOp, ho]) fun r h => oField_sound hS (ev ha) h
    · trivial
  · rename_i t x i ho
    split
    · rename_i a b ha hb; exact OkO.ofOpt (by simp only [execOp, ho]) fun r h => oIndexAddr_sound hS (ev ha) (ev hb) h
    · trivial
  · rename_i t m k ok ho
    split
    · rename_i a b ha hb; exact OkO.ofOpt (by simp only [execOp, ho]) fun r h => oLookup_sound hS (ev ha) (ev hb) h
    · trivial
  · rename_i t m k x ho
    split
    · rename_i a b c ha hb hc
      split
      · rename_i S' hst
        obtain ⟨w', γ', h1, h2, h3⟩ := oMapUpdate_sound hS (ev ha) (ev hb) (ev hc) hst
        exact ⟨w', γ', by simp [execOp, ho, h1], h2, h3⟩
      · trivial
    · trivial
  · rename_i t m k x ho
    split
    · rename_i a b c ha hb hc
      split
      · rename_i S' hst
        obtain ⟨w', γ', h1, h2, h3⟩ := oMapUpdate_sound hS (ev ha) (ev hb) (ev hc) hst
        exact ⟨w', γ', by simp [execOp, ho, h1], h2, h3⟩
      · trivial
    · trivial
  · rename_i x xt t ok ho
    split
    · rename_i a ha; exact OkO.ofOpt (by simp only [execOp, ho]) fun r h => oAssert_sound (xt := xt) hS (ev ha) h
    · trivial
  · rename_i x i ho
    split
    · rename_i a ha; exact OkO.ofOpt (by simp only [execOp, ho]) fun r h => oExtract_sound hS (ev ha) h
    · trivial
  · rename_i op t x y yt ho
    split
    · rename_i a b ha hb
      split
      · rename_i hn
        split
        · have := neNil_sound (ev ha) (ev hb) hn x y .eql (.inl rfl)
          exact OkO.ofVal hS (v := .bool false) (by
            have e : execOp act.eval o = (do pure (.value (← (do eqGuard .eql t x y (act.eval x) (act.eval y); binOp .eql t (act.eval x) (act.eval y) : Sem Value)))) := by simp only [execOp, ho]
            rw [e, Sem.run_bind, this]; rfl) (.v _ rfl)
        · have := neNil_sound (ev ha) (ev hb) hn x y .neq (.inr rfl)
          exact OkO.ofVal hS (v := .bool true) (by
            have e : execOp act.eval o = (do pure (.value (← (do eqGuard .neq t x y (act.eval x) (act.eval y); binOp .neq t (act.eval x) (act.eval y) : Sem Value)))) := by simp only [execOp, ho]
            rw [e, Sem.run_bind, this]; rfl) (.v _ rfl)
        · trivial
      · split
        · rename_i r hr
          obtain ⟨z, hz, hv⟩ := fastBin_sound (P := E.P) (ev ha) (ev hb) hr t x y
          exact OkO.ofVal hS (v := z) (by
            have e : execOp act.eval o = (do pure (.value (← (do eqGuard op t x y (act.eval x) (act.eval y); binOp op t (act.eval x) (act.eval y) : Sem Value)))) := by simp only [execOp, ho]
            rw [e, Sem.run_bind, hz]; rfl) hv
        · unfold eqOr
          split
          · rename_i r hr
            obtain ⟨z, hz, hv⟩ := fastEq_sound (P := E.P) (ev ha) (ev hb) hr x y
            exact OkO.ofVal hS (v := z) (by
              have e : execOp act.eval o = (do pure (.value (← (do eqGuard op t x y (act.eval x) (act.eval y); binOp op t (act.eval x) (act.eval y) : Sem Value)))) := by simp only [execOp, ho]
              rw [e, Sem.run_bind, hz]; rfl) hv
          · exact OkO.ground hS hf hg (by rw [ho]; rfl)
    · trivial
  · rename_i c ho; exact callA_sound hE hS hf hg ho
  · rename_i c ho; exact deferA_sound hf hg ho
  · rename_i x ho
    split
    · rename_i t a hx
      have hv := ev hx
      have hv' := hv
      generalize hq : act.eval x = q at hv hv'
      cases hv
      exact ⟨rfl, _, by simp [execOp, ho, hq, Instr.panic], hv'⟩
    · trivial
  · rename_i ho; exact OkO.ground hS hf hg (by rw [ho]; rfl)
  · rename_i src dst x ho
    split
    · rename_i a ha
      split
      · rename_i r hr
        exact OkO.ofOpt (r := some r) (s := convert src dst (act.eval x)) (by simp only [execOp, ho]) fun a h => by
          injection h with h; subst h; exact oConvert_sound hS (ev ha) hr
      · exact OkO.ground hS hf hg (by rw [ho]; rfl)
    · trivial
  · rename_i t x i ho
    split
    · rename_i a b ha hb
      split
      · rename_i r hr
        obtain ⟨z, hz, hv⟩ := fastIndex_sound (P := E.P) (ev ha) (ev hb) hr
        exact OkO.ofVal hS (v := z) (by simp [execOp, ho, hz]) hv
      · exact OkO.ground hS hf hg (by rw [ho]; rfl)
    · trivial
  · trivial
end
end Go.Ax
noncomputable section
namespace Go.Ax
open Go.RowKit
set_option linter.unusedVariables false
set_option linter.unusedSimpArgs false

structure Dfr where
  fn : Fn
  caps : List AV
  args : List AV
structure Fr where
  tmps : T AV
  dfr : List Dfr
inductive Ex where
  | normal
  | exit (id : Nat)
  | ret
  | pan (a : AV)
inductive O where
  | out (e : Ex) (f : Fr) (S : St)
  | fail
abbrev CallK := FuncId → List AV → St → R
def DfrR (γ : Gh) (w : World) (d : Dfr) (m : Deferred) : Prop := ∃ cv av : List Value, m = { target := .fn d.fn cv.toArray, args := av.toArray } ∧ VRL γ w d.caps cv ∧ VRL γ w d.args av
def DfrL (γ : Gh) (w : World) : List Dfr → List Deferred → Prop
  | [], [] => True
  | d :: ds, m :: ms => DfrR γ w d m ∧ DfrL γ w ds ms
  | _, _ => False
theorem DfrL.mono {γ γ' : Gh} {w w' : World} (e : Ev γ w γ' w') : ∀ {ds : List Dfr} {ms : List Deferred}, DfrL γ w ds ms → DfrL γ' w' ds ms
  | [], [], _ => trivial
  | d :: ds, m :: ms, h => ⟨by obtain ⟨cv, av, h1, h2, h3⟩ := h.1; exact ⟨cv, av, h1, h2.mono e, h3.mono e⟩, DfrL.mono e h.2⟩
  | [], _ :: _, h => h
  | _ :: _, [], h => h
structure AR (γ : Gh) (w : World) (n : Nat) (f : Fr) (act : Act) : Prop where
  tmps : FR γ w f.tmps act.tmps
  size : act.tmps.size = n
  dfr : DfrL γ w f.dfr act.defers
theorem AR.mono {γ γ' : Gh} {w w' : World} (e : Ev γ w γ' w') {n : Nat} {f : Fr} {act : Act} (h : AR γ w n f act) : AR γ' w' n f act := ⟨h.tmps.mono e, h.size, h.dfr.mono e⟩
def putA (n : Nat) (f : Fr) (dst : Option Tmp) (a : AV) (S : St) : O := match dst with
  | none => .out .normal f S
  | some d => if d < n then .out .normal { f with tmps := f.tmps.set d (some a) } S else .fail
/-- Is an operation wanted? -/
def wantedA (ops : Array Oper) (o : Oper) (f : T AV) : Option Bool := match o.guard with
  | none => some true
  | some (j, want) => match (ops[j]?).bind (·.dst) with
    | none => some false
    | some d => match f.get d with
      | some (.v (.bool b)) => some (b == want)
      | some (.tup _) => some false
      | _ => none
def stepO (E : Env) (callK : CallK) (n : Nat) (ops : Array Oper) (o : Oper) (f : Fr) (S : St) : O :=
  match wantedA ops o f.tmps with
  | none => .fail
  | some false => putA n f o.dst (.tup []) S
  | some true => match exec1 E f.tmps S o with
    | .val a S' => putA n f o.dst a S'
    | .skip S' => putA n f o.dst (.tup []) S'
    | .enter k args S' => match callK k args S' with
      | .ret a S'' => putA n f o.dst a S''
      | .pan a S'' => .out (.pan a) f S''
      | .fail => .fail
    | .dfr fn caps args S' => putA n { f with dfr := ⟨fn, caps, args⟩ :: f.dfr } o.dst (.tup []) S'
    | .pan a S' => .out (.pan a) f S'
    | .fail => .fail
def Lands (γ' : Gh) (Q : Exit → Act → World → Prop) (act' : Act) (w' : World) : Ex → Prop
  | .normal => Q .normal act' w'
  | .exit id => Q (.exit id) act' w'
  | .ret => Q .ret act' w'
  | .pan a => ∀ v, VR γ' w' a v → Q (.panic [{ v, recovered := false }]) act' w'
def Holds (base : Nat) (w0 : World) (n : Nat) (γ : Gh) (S : St) (w : World) (Q : Exit → Act → World → Prop) : O → Prop
  | .out e f' S' => ∀ γ' act' w', SR base w0 γ' S' w' → Ext γ S w γ' S' w' → AR γ' w' n f' act' → Lands γ' Q act' w' e
  | .fail => False
theorem Holds.later {base : Nat} {w0 : World} {n : Nat} {γ γ1 : Gh} {S S1 : St} {w w1 : World} {Q : Exit → Act → World → Prop} {r : O} (e : Ext γ S w γ1 S1 w1) (h : Holds base w0 n γ S w Q r) : Holds base w0 n γ1 S1 w1 Q r := by
  cases r with
  | fail => exact h
  | out x f' S' => exact fun γ' act' w' h1 h2 h3 => h γ' act' w' h1 (e.trans h2) h3
/-- What a call of the kind does, in the model. -/
def RetOk (base : Nat) (w0 : World) (γ : Gh) (S : St) (w : World) (r : R) (e : Ending) (w' : World) : Prop :=
  match r with
  | .ret a S' => ∃ γ' v, SR base w0 γ' S' w' ∧ Ext γ S w γ' S' w' ∧ VR γ' w' a v ∧ e = .returned v
  | .pan a S' => ∃ γ' v, SR base w0 γ' S' w' ∧ Ext γ S w γ' S' w' ∧ VR γ' w' a v ∧ e = .panicked [{ v, recovered := false }]
  | .fail => False
def IntrOk (E : Env) : Prop :=
  ∀ k g, E.I k = some g → ∀ (base : Nat) (w0 : World) args S, g args S ≠ .fail → ∀ γ w (vs : List Value), SR base w0 γ S w → GR γ w E.G → VRL γ w args vs → Calls E.P k vs.toArray w (RetOk base w0 γ S w (g args S))
def CallOk (E : Env) (base : Nat) (w0 : World) (callK : CallK) : Prop :=
  ∀ k args S, callK k args S ≠ .fail → ∀ γ w (vs : List Value), SR base w0 γ S w → GR γ w E.G → VRL γ w args vs → (E.F k).isSome = true → Calls E.P k vs.toArray w (RetOk base w0 γ S w (callK k args S))
section
variable {E : Env} {base : Nat} {w0 : World} {Q : Exit → Act → World → Prop}
theorem put_holds {γ : Gh} {S S' : St} {w w' : World} {γ' : Gh} {n : Nat} {f : Fr} {act : Act} {dst : Option Tmp} {a : AV} {v : Value} (hH : Holds base w0 n γ S w Q (putA n f dst a S')) (hS : SR base w0 γ' S' w') (he : Ext γ S w γ' S' w') (ha : AR γ' w' n f act) (hv : VR γ' w' a v) : Q .normal (act.put dst v) w' := by
  unfold putA at hH
  split at hH
  · exact hH γ' _ w' hS he ha
  · rename_i d
    split at hH
    · rename_i hd
      refine hH γ' _ w' hS he ⟨?_, by simp [Act.put, ha.size], ha.dfr⟩
      exact ha.tmps.put (some d) n ha.size.symm hv (fun d' hd' => by injection hd' with hd'; subst hd'; exact hd)
    · exact hH.elim
theorem wantedA_sound {γ : Gh} {w : World} {n : Nat} {f : Fr} {act : Act} {ops : Array Oper} {o : Oper} (ha : AR γ w n f act) {b : Bool} (h : wantedA ops o f.tmps = some b) : Region.wanted o (yielded ops act.tmps) = b := by
  unfold wantedA at h
  unfold Region.wanted
  split at h
  · rename_i hg; injection h with h; subst h; rw [hg]
  · rename_i j want hg
    rw [hg]
    show (yielded ops act.tmps j == some want) = b
    unfold yielded
    split at h
    · rename_i hd; injection h with h; subst h; rw [hd]; rfl
    · rename_i d hd
      rw [hd]
      have key : ∀ a, f.tmps.get d = some a → ∃ v, act.tmps[d]? = some v ∧ VR γ w a v := fun a hda => by
        obtain ⟨h1, h2⟩ := ha.tmps d a hda
        exact ⟨act.tmps[d], Array.getElem?_eq_getElem h1, by simpa [h1] using h2⟩
      split at h
      · rename_i bb hb
        injection h with h; subst h
        obtain ⟨v, hv, hr⟩ := key _ hb
        cases hr
        simp [hv]
      · rename_i vs hb
        injection h with h; subst h
        obtain ⟨v, hv, hr⟩ := key _ hb
        cases hr
        simp [hv]
      · cases h
theorem stepO_sound (hE : E.Ok) {callK : CallK} (hC : CallOk E base w0 callK) {γ : Gh} {S : St} {w : World} {n : Nat} {ops : Array Oper} {o : Oper} {f : Fr} {act : Act} (hS : SR base w0 γ S w) (ha : AR γ w n f act) (hg : GR γ w E.G)
    {K : Act → World → Prop} (hH : Holds base w0 n γ S w (fun x a w => match x with | .normal => K a w | x => Q x a w) (stepO E callK n ops o f S)) :
    if Region.wanted o (yielded ops act.tmps) then o.wp E.P act w K Q else K (act.put o.dst undef) w := by
  unfold stepO at hH
  split at hH
  · exact hH.elim
  · rename_i hw
    rw [wantedA_sound ha hw, if_neg (by simp)]
    exact put_holds (v := undef) hH hS (.refl _ _ _) ha (by have := VR.tup (γ := γ) (w := w) [] [] rfl (fun k h => by cases h); exact this)
  · rename_i hw
    rw [wantedA_sound ha hw, if_pos rfl]
    have hex := exec1_sound (o := o) hE hS ha.tmps hg
    have hund : ∀ {γ' : Gh} {w' : World}, VR γ' w' (.tup []) undef := fun {γ'} {w'} => by have := VR.tup (γ := γ') (w := w') [] [] rfl (fun k h => by cases h); exact this
    unfold Oper.wp
    split at hH
    · rename_i a S' he
      rw [he] at hex
      obtain ⟨v, w', γ', hr, h1, h2, h3⟩ := hex
      rw [hr]
      exact put_holds hH h1 h2 (ha.mono h2.ev) h3
    · rename_i S' he
      rw [he] at hex
      obtain ⟨w', γ', hr, h1, h2⟩ := hex
      rw [hr]
      exact put_holds hH h1 h2 (ha.mono h2.ev) hund
    · rename_i k args S' he
      rw [he] at hex
      obtain ⟨rfl, hF, vs, hr, h3⟩ := hex
      rw [hr]
      have hne : callK k args S' ≠ .fail := fun e => by rw [e] at hH; exact hH.elim
      refine (hC k args S' hne γ w vs hS hg h3 hF).mono fun e w' hret => ?_
      unfold RetOk at hret
      split at hret
      · rename_i a S'' hk
        rw [hk] at hH
        obtain ⟨γ', v, k1, k2, k3, rfl⟩ := hret
        exact put_holds hH k1 k2 (ha.mono k2.ev) k3
      · rename_i a S'' hk
        rw [hk] at hH
        obtain ⟨γ', v, k1, k2, k3, rfl⟩ := hret
        exact hH γ' act w' k1 k2 (ha.mono k2.ev) v k3
      · exact hret.elim
    · rename_i fn caps args S' he
      rw [he] at hex
      obtain ⟨rfl, cv, av, hr, h1, h2⟩ := hex
      rw [hr]
      exact put_holds (act := { act with defers := { target := .fn fn cv.toArray, args := av.toArray } :: act.defers }) hH hS (.refl _ _ _) ⟨ha.tmps, ha.size, ⟨cv, av, rfl, h1, h2⟩, ha.dfr⟩ hund
    · rename_i a S' he
      rw [he] at hex
      obtain ⟨rfl, v, hr, hv⟩ := hex
      rw [hr]
      exact hH γ act w hS (.refl _ _ _) ha v hv
    · exact hH.elim
/-- Operations in a row. -/
def runL (E : Env) (callK : CallK) (n : Nat) (ops : Array Oper) : List Oper → Fr → St → O
  | [], f, S => .out .normal f S
  | o :: rest, f, S => match stepO E callK n ops o f S with
    | .out .normal f' S' => runL E callK n ops rest f' S'
    | r => r
theorem runL_sound (hE : E.Ok) {callK : CallK} (hC : CallOk E base w0 callK) {n : Nat} {ops : Array Oper} : ∀ (l : List Oper) (γ : Gh) (S : St) (w : World) (f : Fr) (act : Act), SR base w0 γ S w → AR γ w n f act → GR γ w E.G →
    Holds base w0 n γ S w Q (runL E callK n ops l f S) → wpList E.P ops Q l act w
  | [], γ, S, w, f, act, hS, ha, hg, hH => hH γ act w hS (.refl _ _ _) ha
  | o :: rest, γ, S, w, f, act, hS, ha, hg, hH => by
    refine wpList_step fun K hK => ?_
    refine stepO_sound hE hC hS ha hg ?_
    unfold runL at hH
    split at hH
    · rename_i f' S' hs
      rw [hs]
      intro γ' act' w' h1 h2 h3
      exact hK _ _ (runL_sound hE hC rest γ' S' w' f' act' h1 h3 (hg.mono h2.ev) (hH.later h2))
    · rename_i r hr
      cases hst : stepO E callK n ops o f S with
      | fail => rw [hst] at hH; exact hH.elim
      | out e f' S' =>
        rw [hst] at hH
        intro γ' act' w' h1 h2 h3
        have := hH γ' act' w' h1 h2 h3
        cases e with
        | normal => exact absurd hst (hr f' S')
        | exit id => exact this
        | ret => exact this
        | pan a => exact this
end
/-- A region whose order is drawn, run somehow. -/
abbrev Drawn := CallK → Nat → Array Oper → Fr → St → O
def DrawnOk (E : Env) (D : Drawn) : Prop :=
  ∀ (base : Nat) (w0 : World) (Q : Exit → Act → World → Prop) (callK : CallK), CallOk E base w0 callK → ∀ (n id : Nat) (ops : Array Oper) (γ : Gh) (S : St) (w : World) (f : Fr) (act : Act), SR base w0 γ S w → AR γ w n f act → GR γ w E.G →
    Holds base w0 n γ S w Q (D callK n ops f S) → (Code.region id ops true).wp E.P Q act w
def stepC (E : Env) (D : Drawn) (rec : Nat → Code → Fr → St → O) (callK : CallK) (n : Nat) (c : Code) (f : Fr) (S : St) : O :=
  match c with
  | .skip => .out .normal f S
  | .label _ => .out .normal f S
  | .region _ ops false => runL E callK n ops ops.toList f S
  | .region _ ops true => D callK n ops f S
  | .seq a b => match rec n a f S with
    | .out .normal f' S' => rec n b f' S'
    | r => r
  | .cond c x y => match evalO E.G f.tmps c with
    | some (.v (.bool true)) => rec n x f S
    | some (.v (.bool false)) => rec n y f S
    | _ => .fail
  | .block id c => match rec n c f S with
    | .out (.exit id') f' S' => if id' = id then .out .normal f' S' else .out (.exit id') f' S'
    | r => r
  | .loop c => match rec n c f S with
    | .out .normal f' S' => rec n (.loop c) f' S'
    | r => r
  | .exit id => .out (.exit id) f S
  | .ret => .out .ret f S
  | _ => .fail
/-- What a function answers. -/
def resultsA (E : Env) (f : T AV) (S : St) : List ResultVar → Option (List AV)
  | [] => some []
  | .tmp t :: r => match f.get t, resultsA E f S r with
    | some a, some l => some (a :: l)
    | _, _ => none
  | .cell x t :: r => match f.get x with
    | some a => match oLoad E.P S t a, resultsA E f S r with
      | some a, some l => some (a :: l)
      | _, _ => none
    | none => none
def tupA : List AV → AV
  | [a] => a
  | l => .tup l
def initT : List AV → Nat → T AV
  | [], _ => .leaf
  | a :: r, k => (initT r (k + 1)).set k (some a)
/-- A deferred function that begins with recover. -/
def isRecover (o : Oper) : Option Tmp := match o.op with
  | .call c => match c.callee with
    | .builtin .recover => if o.guard.isNone then o.dst else none
    | _ => none
  | _ => none
inductive DR where
  | ok (met : Bool) (S : St)
  | fail
def dfrA (E : Env) (rec : Nat → Code → Fr → St → O) (k : FuncId) (args : List AV) (S : St) (m : Option AV) : DR :=
  match E.F k with
  | none => .fail
  | some fn => match fn.body with
    | some (.seq (.region _ ops false) rest) => match ops.toList with
      | [o] => match isRecover o with
        | some d => if args.length ≤ fn.ntmps ∧ d < fn.ntmps then
            match rec fn.ntmps rest ⟨(initT args 0).set d (some (m.getD (.v .nilIface))), []⟩ S with
            | .out e f' S' => match f'.dfr, fn.results.toList, e with
              | [], [], .normal => .ok m.isSome S'
              | [], [], .ret => .ok m.isSome S'
              | _, _, _ => .fail
            | .fail => .fail
          else .fail
        | none => .fail
      | _ => .fail
    | _ => .fail
def giveA (E : Env) (fn : Func) (f : T AV) (S : St) : R := match resultsA E f S fn.results.toList with
  | some l => .ret (tupA l) S
  | none => .fail
def endA (E : Env) (rec : Nat → Code → Fr → St → O) (fn : Func) : O → R
  | .out e f S => match f.dfr with
    | [] => match e with
      | .normal => giveA E fn f.tmps S
      | .ret => giveA E fn f.tmps S
      | .pan a => .pan a S
      | _ => .fail
    | [⟨.func k, caps, args⟩] => match e with
      | .normal => match dfrA E rec k (args ++ caps) S none with
        | .ok _ S' => giveA E fn f.tmps S'
        | .fail => .fail
      | .ret => match dfrA E rec k (args ++ caps) S none with
        | .ok _ S' => giveA E fn f.tmps S'
        | .fail => .fail
      | .pan a => match dfrA E rec k (args ++ caps) S (some a) with
        | .ok _ S' => giveA E fn f.tmps S'
        | .fail => .fail
      | _ => .fail
    | _ => .fail
  | .fail => .fail
def stepF (E : Env) (rec : Nat → Code → Fr → St → O) : CallK := fun k args S =>
  match E.I k with
  | some g => g args S
  | none => match E.F k with
    | none => .fail
    | some fn => match fn.body with
      | none => .fail
      | some c => if args.length ≤ fn.ntmps then endA E rec fn (rec fn.ntmps c ⟨initT args 0, []⟩ S) else .fail
def run (E : Env) (D : Drawn) : Nat → Nat → Code → Fr → St → O :=
  Nat.rec (fun _ _ _ _ => .fail) (fun _ ih => stepC E D ih (stepF E ih))
def callN (E : Env) (D : Drawn) (m : Nat) : CallK := stepF E (run E D m)
end Go.Ax
