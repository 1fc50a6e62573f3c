/-
  Constants, values without addresses, operands; what an operation makes of an abstract state.
-/
import Derived.Test.YtjgknelmjdallaaGreatDoorFcC
noncomputable section
namespace Go.Ax
open Go.RowKit
set_option linter.unusedVariables false
set_option linter.unusedSimpArgs false

def mapO {α β : Type} (f : α → Option β) : List α → Option (List β)
  | [] => some []
  | x :: r => match f x with
    | none => none
    | some y => match mapO f r with
      | none => none
      | some ys => some (y :: ys)
theorem mapO_spec {α β : Type} {f : α → Option β} : ∀ {l : List α} {r : List β}, mapO f l = some r → r.length = l.length ∧ ∀ k (h : k < l.length) (h' : k < r.length), f l[k] = some r[k]
  | [], r, h => by
    have : r = [] := by simpa [mapO] using h.symm
    subst this; exact ⟨rfl, fun k h => by cases h⟩
  | x :: l, r, h => by
    unfold mapO at h
    split at h
    · cases h
    · rename_i y hy
      split at h
      · cases h
      · rename_i ys hys
        injection h with h; subst h
        obtain ⟨h1, h2⟩ := mapO_spec hys
        refine ⟨by simp [h1], fun k hk hk' => ?_⟩
        cases k with
        | zero => exact hy
        | succ k => exact h2 k (by simpa using hk) (by simpa using hk')

/-- A value of the text. -/
def ofConst : Nat → Value → Option AV
  | 0, _ => none
  | n + 1, v => match v with
    | .pointer none => some .nilp
    | .slice none 0 0 => some .nils
    | .map none => some .nilm
    | .agg cs => match mapO (ofConst n) cs.toList with
      | some l => if l.all AV.one then some (.agg l) else none
      | none => none
    | .tuple vs => match mapO (ofConst n) vs.toList with
      | some l => some (.tup l)
      | none => none
    | .iface t x => match ofConst n x with
      | some a => some (.iface t a)
      | none => none
    | .bool b => some (.v (.bool b))
    | .int k i => some (.v (.int k i))
    | .string s => some (.v (.string s))
    | .float k b => some (.v (.float k b))
    | .nilFunc => some (.v .nilFunc)
    | .nilIface => some (.v .nilIface)
    | _ => none
theorem ofConst_sound {γ : Gh} {w : World} : ∀ {n : Nat} {v : Value} {a : AV}, ofConst n v = some a → VR γ w a v
  | 0, _, _, h => by cases h
  | n + 1, v, a, h => by
    unfold ofConst at h
    split at h <;> try (injection h with h; subst h; first | exact .nilp | exact .nils | exact .nilm | exact .v _ rfl)
    · rename_i cs
      split at h
      · rename_i l hl
        split at h
        · rename_i h1
          injection h with h; subst h
          obtain ⟨e1, e2⟩ := mapO_spec hl
          rw [← Array.toArray_toList (xs := cs)]
          exact .agg l cs.toList e1.symm (by simpa using h1) (fun k hk hk' => ofConst_sound (e2 k hk' hk))
        · cases h
      · cases h
    · rename_i vs
      split at h
      · rename_i l hl
        injection h with h; subst h
        obtain ⟨e1, e2⟩ := mapO_spec hl
        rw [← Array.toArray_toList (xs := vs)]
        exact .tup l vs.toList e1.symm (fun k hk hk' => ofConst_sound (e2 k hk' hk))
      · cases h
    · split at h
      · rename_i a' ha
        injection h with h; subst h
        exact .iface _ _ _ (ofConst_sound ha)
      · cases h
    · cases h
/-- A value without addresses. -/
def toVal : Nat → AV → Option Value
  | 0, _ => none
  | n + 1, a => match a with
    | .v x => some x
    | .nilp => some (.pointer none)
    | .nils => some (.slice none 0 0)
    | .nilm => some (.map none)
    | .agg cs => match mapO (toVal n) cs with
      | some l => some (.agg l.toArray)
      | none => none
    | .tup cs => match mapO (toVal n) cs with
      | some l => some (.tuple l.toArray)
      | none => none
    | .iface t x => match toVal n x with
      | some v => some (.iface t v)
      | none => none
    | _ => none
theorem list_eq_of {x y : List Value} (hl : x.length = y.length) (h : ∀ k (h1 : k < x.length) (h2 : k < y.length), x[k] = y[k]) : x = y := List.ext_getElem hl h
theorem toVal_sound {γ : Gh} {w : World} : ∀ {n : Nat} {a : AV} {v v' : Value}, toVal n a = some v → VR γ w a v' → v' = v
  | 0, _, _, _, h, _ => by cases h
  | n + 1, a, v, v', h, hr => by
    unfold toVal at h
    split at h
    · injection h with h; subst h; cases hr; rfl
    · injection h with h; subst h; cases hr; rfl
    · injection h with h; subst h; cases hr; rfl
    · injection h with h; subst h; cases hr; rfl
    · split at h
      · rename_i l hl
        injection h with h; subst h
        obtain ⟨e1, e2⟩ := mapO_spec hl
        cases hr with
        | agg _ x hx _ hk =>
        have : x = l := list_eq_of (by omega) (fun k h1 h2 => toVal_sound (e2 k (by omega) h2) (hk k (by omega) h1))
        rw [this]
      · cases h
    · split at h
      · rename_i l hl
        injection h with h; subst h
        obtain ⟨e1, e2⟩ := mapO_spec hl
        cases hr with
        | tup _ x hx hk =>
        have : x = l := list_eq_of (by omega) (fun k h1 h2 => toVal_sound (e2 k (by omega) h2) (hk k (by omega) h1))
        rw [this]
      · cases h
    · split at h
      · rename_i x' hx'
        injection h with h; subst h
        cases hr with
        | iface _ _ _ hk => rw [toVal_sound hx' hk]
      · cases h
    · cases h

/-- What lies at the globals that may be read. -/
abbrev Gl := Nat → Option (List AV)
def evalO (G : Gl) (f : T AV) : Operand → Option AV
  | .tmp t => f.get t
  | .const v => ofConst 8 v
  | .global g => match G g with
    | some cs => some (.ep cs)
    | none => none
  | .func k => some (.fn (.func k) [] [])
def FR (γ : Gh) (w : World) (f : T AV) (tmps : Array Value) : Prop := ∀ t a, f.get t = some a → t < tmps.size ∧ VR γ w a (tmps.getD t undef)
def GR (γ : Gh) (w : World) (G : Gl) : Prop := ∀ g cs, G g = some cs → VR γ w (.ep cs) (.pointer (some ⟨g, 0, none⟩))
theorem FR.mono {γ γ' : Gh} {w w' : World} (e : Ev γ w γ' w') {f : T AV} {tmps : Array Value} (h : FR γ w f tmps) : FR γ' w' f tmps := fun t a ht => ⟨(h t a ht).1, (h t a ht).2.mono e⟩
theorem GR.mono {γ γ' : Gh} {w w' : World} (e : Ev γ w γ' w') {G : Gl} (h : GR γ w G) : GR γ' w' G := fun g cs hg => (h g cs hg).mono e
theorem evalO_sound {γ : Gh} {w : World} {G : Gl} {f : T AV} {act : Act} (hf : FR γ w f act.tmps) (hg : GR γ w G) {x : Operand} {a : AV} (h : evalO G f x = some a) : VR γ w a (act.eval x) := by
  cases x with
  | tmp t => exact (hf t a h).2
  | const v => exact ofConst_sound h
  | global g =>
    cases hG : G g with
    | none => simp [evalO, hG] at h
    | some cs =>
      simp [evalO, hG] at h
      subst h
      exact hg g cs hG
  | func k =>
    injection h with h; subst h
    exact .fn (.func k) [] [] [] [] rfl rfl (fun k h => by cases h) (fun k h => by cases h)
theorem FR.put {γ : Gh} {w : World} {f : T AV} {act : Act} (h : FR γ w f act.tmps) (dst : Option Tmp) (n : Nat) (hn : n = act.tmps.size) {a : AV} {v : Value} (hv : VR γ w a v) (hd : ∀ d, dst = some d → d < n) :
    FR γ w (match dst with | some d => f.set d (some a) | none => f) (act.put dst v).tmps := by
  cases dst with
  | none => exact h
  | some d =>
    intro t b hb
    have hb : (f.set d (some a)).get t = some b := hb
    rw [T.get_set] at hb
    have hd := hd d rfl
    show t < (act.tmps.setIfInBounds d v).size ∧ VR γ w b ((act.tmps.setIfInBounds d v).getD t undef)
    split at hb
    · rename_i e
      injection hb with hb; subst hb; subst e
      refine ⟨by rw [Array.size_setIfInBounds, ← hn]; exact hd, ?_⟩
      rw [Array.getD_eq_getD_getElem?, Array.getElem?_setIfInBounds_self_of_lt (by rw [← hn]; exact hd)]
      exact hv
    · rename_i e
      have := h t b hb
      refine ⟨by simp; exact this.1, ?_⟩
      rw [Array.getD_eq_getD_getElem?, Array.getElem?_setIfInBounds_ne (by omega), ← Array.getD_eq_getD_getElem?]
      exact this.2

/-- What comes of an operation. -/
inductive OR where
  | val (a : AV) (S : St)
  | skip (S : St)
  | enter (k : FuncId) (args : List AV) (S : St)
  | dfr (f : Fn) (caps args : List AV) (S : St)
  | pan (a : AV) (S : St)
  | fail
def pureN (P : Program) : Nat → Sem Next → Option Value
  | 0, _ => none
  | n + 1, s => match s with
    | .program k => pureN P n (k P)
    | .pure (.value v) => some v
    | _ => none
theorem pureN_sound {P : Program} : ∀ {n : Nat} {s : Sem Next} {v : Value} (w : World), pureN P n s = some v → s.run P w = .ok (.value v) w
  | 0, _, _, _, h => by cases h
  | n + 1, s, v, w, h => by
    unfold pureN at h
    split at h
    · rename_i k
      exact (pureN_sound w h : (k P).run P w = _)
    · injection h with h; subst h; rfl
    · cases h
def groundO (G : Gl) (f : T AV) (x : Operand) : Option Value := match evalO G f x with
  | some a => toVal 8 a
  | none => none
theorem groundO_sound {γ : Gh} {w : World} {G : Gl} {f : T AV} {act : Act} (hf : FR γ w f act.tmps) (hg : GR γ w G) {x : Operand} {v : Value} (h : groundO G f x = some v) : act.eval x = v := by
  unfold groundO at h
  split at h
  · rename_i a ha; exact toVal_sound h (evalO_sound hf hg ha)
  · cases h
/-- The model's own code for it, on values without addresses. -/
def ground (P : Program) (G : Gl) (f : T AV) (S : St) (o : Oper) : OR :=
  if o.op.operands.toList.all (fun x => (groundO G f x).isSome) then
    match pureN P 4000 (execOp (fun x => (groundO G f x).getD undef) o) with
    | some v => match ofConst 8 v with
      | some a => .val a S
      | none => .fail
    | none => .fail
  else .fail
def Op.noSel : Op → Bool
  | .select _ _ => false
  | _ => true
theorem ground_sound {P : Program} {γ : Gh} {w : World} {G : Gl} {f : T AV} {act : Act} {S S' : St} {o : Oper} {a : AV} (hf : FR γ w f act.tmps) (hg : GR γ w G) (hs : Op.noSel o.op = true) (h : ground P G f S o = .val a S') :
    S' = S ∧ ∃ v, (execOp act.eval o).run P w = .ok (.value v) w ∧ VR γ w a v := by
  unfold ground at h
  split at h
  · rename_i hall
    split at h
    · rename_i v hv
      split at h
      · rename_i a' ha
        injection h with h1 h2; subst h1; subst h2
        refine ⟨rfl, v, ?_, ofConst_sound ha⟩
        rw [execOp_congr (ρ' := fun x => (groundO G f x).getD undef) o (fun cs b e => by rw [e] at hs; cases hs) (fun x hx => ?_)]
        · exact pureN_sound w hv
        · have := List.all_eq_true.1 hall x (by simpa using hx)
          obtain ⟨u, hu⟩ := Option.isSome_iff_exists.1 this
          rw [groundO_sound hf hg hu, hu]; rfl
      · cases h
    · cases h
  · cases h
theorem ground_ne {P : Program} {G : Gl} {f : T AV} {S : St} {o : Oper} : (∃ a, ground P G f S o = .val a S) ∨ ground P G f S o = .fail := by
  unfold ground
  split
  · split
    · split
      · exact .inl ⟨_, rfl⟩
      · exact .inr rfl
    · exact .inr rfl
  · exact .inr rfl
end Go.Ax
