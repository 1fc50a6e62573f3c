/-
  Abstract values: what a run sees of memory, with names in the place of blocks. The relation to the model's values and worlds, and that it lasts.
-/
import GoSem.Dispatch
import Derived.Calls
import Derived.Orders
import Derived.Below
import Derived.Laws.AppendOwn
namespace Go.Ax
open Go.RowKit
set_option linter.unusedVariables false
set_option linter.unusedSimpArgs false

/-- A value without addresses is itself; what points into memory goes by a name, or bears what it points to. -/
inductive AV where
  | v (x : Value)
  | nilp
  | ptr (id off : Nat)
  | ep (cs : List AV)
  | nils
  | sl (tok off sz : Nat) (es : List AV)
  | nilm
  | map (id : Nat)
  | fn (f : Fn) (first caps : List AV)
  | iface (t : TypeId) (x : AV)
  | agg (cs : List AV)
  | tup (vs : List AV)
  | bs (id off n sz : Nat)
  deriving Inhabited

def AV.one : AV → Bool
  | .agg _ => false
  | .tup _ => false
  | _ => true
def AV.cells : AV → List AV
  | .agg cs => cs
  | x => [x]
def flat (es : List AV) : List AV := es.flatMap AV.cells
def scalar : Value → Bool
  | .bool _ | .int _ _ | .string _ | .float _ _ | .nilFunc | .nilIface => true
  | _ => false

/-- Names' blocks, and where they begin there; cells that stay as they are. -/
structure Gh where
  loc : Nat → Option (Nat × Nat)
  im : Nat → Nat → Prop

inductive VR (γ : Gh) (w : World) : AV → Value → Prop
  | v (x : Value) (h : scalar x = true) : VR γ w (.v x) x
  | nilp : VR γ w .nilp (.pointer none)
  | ptr (id off b s : Nat) (h : γ.loc id = some (b, s)) : VR γ w (.ptr id off) (.pointer (some ⟨b, s + off, none⟩))
  | ep (cs : List AV) (b o : Nat) (c : Nat → Value) (h : ∀ k, k < cs.length → γ.im b (o + k) ∧ w.cell? ⟨b, o + k, none⟩ = some (c k)) (h1 : ∀ x ∈ cs, x.one = true)
      (hr : ∀ k (h : k < cs.length), VR γ w cs[k] (c k)) : VR γ w (.ep cs) (.pointer (some ⟨b, o, none⟩))
  | nils : VR γ w .nils (.slice none 0 0)
  | sl (tok off sz : Nat) (es : List AV) (b o cap : Nat) (c : Nat → Value) (hsz : 0 < sz) (hes : ∀ e ∈ es, e.cells.length = sz) (h1 : ∀ x ∈ flat es, x.one = true)
      (h : ∀ k, k < (flat es).length → γ.im b (o + k) ∧ w.cell? ⟨b, o + k, none⟩ = some (c k)) (hr : ∀ k (h : k < (flat es).length), VR γ w (flat es)[k] (c k))
      (ht : 2 ≤ tok → ∃ s, γ.loc tok = some (b, s) ∧ o = s + off) (hf : tok = 1 → cap = es.length) (hc : es.length ≤ cap) (hb : ∃ (arr : Array Value) (T : TypeId) (fr : Nat × Nat), w.heap[b]? = some (Obj.cells arr T fr) ∧ o + cap * sz ≤ arr.size) :
      VR γ w (.sl tok off sz es) (.slice (some ⟨b, o, none⟩) es.length cap)
  | nilm : VR γ w .nilm (.map none)
  | map (id b s : Nat) (h : γ.loc id = some (b, s)) : VR γ w (.map id) (.map (some b))
  | fn (f : Fn) (first caps : List AV) (x y : List Value) (hx : x.length = first.length) (hy : y.length = caps.length)
      (h1 : ∀ k (h : k < first.length) (h' : k < x.length), VR γ w first[k] x[k]) (h2 : ∀ k (h : k < caps.length) (h' : k < y.length), VR γ w caps[k] y[k]) : VR γ w (.fn f first caps) (.func f x.toArray y.toArray)
  | iface (t : TypeId) (a : AV) (x : Value) (h : VR γ w a x) : VR γ w (.iface t a) (.iface t x)
  | agg (cs : List AV) (x : List Value) (hx : x.length = cs.length) (h1 : ∀ a ∈ cs, a.one = true) (h : ∀ k (h : k < cs.length) (h' : k < x.length), VR γ w cs[k] x[k]) : VR γ w (.agg cs) (.agg x.toArray)
  | bs (id off n sz b s cap : Nat) (h : γ.loc id = some (b, s)) (hc : n ≤ cap) (hsz : 0 < sz) (hb : ∃ (arr : Array Value) (T : TypeId) (fr : Nat × Nat), w.heap[b]? = some (Obj.cells arr T fr) ∧ s + off + cap * sz ≤ arr.size) : VR γ w (.bs id off n sz) (.slice (some ⟨b, s + off, none⟩) n cap)
  | tup (vs : List AV) (x : List Value) (hx : x.length = vs.length) (h : ∀ k (h : k < vs.length) (h' : k < x.length), VR γ w vs[k] x[k]) : VR γ w (.tup vs) (.tuple x.toArray)

/-- Rows of values. -/
def VRL (γ : Gh) (w : World) (cs : List AV) (x : List Value) : Prop := x.length = cs.length ∧ ∀ k (h : k < cs.length) (h' : k < x.length), VR γ w cs[k] x[k]

/-- What a world may become while values are held. -/
structure Ev (γ : Gh) (w : World) (γ' : Gh) (w' : World) : Prop where
  loc : ∀ id x, γ.loc id = some x → γ'.loc id = some x
  im : ∀ b o, γ.im b o → γ'.im b o
  cell : ∀ b o v, γ.im b o → w.cell? ⟨b, o, none⟩ = some v → w'.cell? ⟨b, o, none⟩ = some v
  blk : ∀ (b : Nat) (arr : Array Value) (T : TypeId) (fr : Nat × Nat), w.heap[b]? = some (Obj.cells arr T fr) → ∃ arr' fr', w'.heap[b]? = some (Obj.cells arr' T fr') ∧ arr'.size = arr.size

theorem Ev.refl (γ : Gh) (w : World) : Ev γ w γ w := ⟨fun _ _ h => h, fun _ _ h => h, fun _ _ _ _ h => h, fun _ arr _ fr h => ⟨arr, fr, h, rfl⟩⟩
theorem Ev.trans {γ γ1 γ2 : Gh} {w w1 w2 : World} (h : Ev γ w γ1 w1) (k : Ev γ1 w1 γ2 w2) : Ev γ w γ2 w2 :=
  ⟨fun id x e => k.loc _ _ (h.loc _ _ e), fun b o e => k.im _ _ (h.im _ _ e), fun b o v e c => k.cell _ _ _ (h.im _ _ e) (h.cell _ _ _ e c), fun b arr T fr e => by
    obtain ⟨a1, f1, e1, s1⟩ := h.blk _ _ _ _ e
    obtain ⟨a2, f2, e2, s2⟩ := k.blk _ _ _ _ e1
    exact ⟨a2, f2, e2, s2.trans s1⟩⟩

theorem VR.mono {γ γ' : Gh} {w w' : World} (e : Ev γ w γ' w') {a : AV} {x : Value} (h : VR γ w a x) : VR γ' w' a x := by
  induction h with
  | v x h => exact .v x h
  | nilp => exact .nilp
  | ptr id off b s h => exact .ptr id off b s (e.loc _ _ h)
  | ep cs b o c h h1 _ ih => exact .ep cs b o c (fun k hk => ⟨e.im _ _ (h k hk).1, e.cell _ _ _ (h k hk).1 (h k hk).2⟩) h1 ih
  | nils => exact .nils
  | sl tok off sz es b o cap c hsz hes h1 h _ ht hf hc hb ih =>
    refine .sl tok off sz es b o cap c hsz hes h1 (fun k hk => ⟨e.im _ _ (h k hk).1, e.cell _ _ _ (h k hk).1 (h k hk).2⟩) ih (fun h0 => ?_) hf hc ?_
    · obtain ⟨s, hs, ho⟩ := ht h0
      exact ⟨s, e.loc _ _ hs, ho⟩
    · obtain ⟨arr, T, fr, ha, hle⟩ := hb
      obtain ⟨a1, f1, e1, s1⟩ := e.blk _ _ _ _ ha
      exact ⟨a1, T, f1, e1, by omega⟩
  | nilm => exact .nilm
  | map id b s h => exact .map id b s (e.loc _ _ h)
  | fn f first caps x y hx hy _ _ ih1 ih2 => exact .fn f first caps x y hx hy ih1 ih2
  | iface t a x _ ih => exact .iface t a x ih
  | agg cs x hx h1 _ ih => exact .agg cs x hx h1 ih
  | tup vs x hx _ ih => exact .tup vs x hx ih
  | bs id off n sz b s cap h hc hsz hb =>
    refine .bs id off n sz b s cap (e.loc _ _ h) hc hsz ?_
    obtain ⟨arr, T, fr, ha, hle⟩ := hb
    obtain ⟨a1, f1, e1, s1⟩ := e.blk _ _ _ _ ha
    exact ⟨a1, T, f1, e1, by omega⟩
theorem VRL.mono {γ γ' : Gh} {w w' : World} (e : Ev γ w γ' w') {a : List AV} {x : List Value} (h : VRL γ w a x) : VRL γ' w' a x := ⟨h.1, fun k h1 h2 => (h.2 k h1 h2).mono e⟩
theorem VRL.nil (γ : Gh) (w : World) : VRL γ w [] [] := ⟨rfl, fun _ h => by cases h⟩
theorem VRL.cons {γ : Gh} {w : World} {a : AV} {x : Value} {as : List AV} {xs : List Value} (h : VR γ w a x) (hs : VRL γ w as xs) : VRL γ w (a :: as) (x :: xs) :=
  ⟨by simp [hs.1], fun k h1 h2 => by
    cases k with
    | zero => exact h
    | succ k => exact hs.2 k (by simpa using h1) (by simpa using h2)⟩
theorem VRL.head {γ : Gh} {w : World} {a : AV} {as : List AV} {xs : List Value} (h : VRL γ w (a :: as) xs) : ∃ x xs', xs = x :: xs' ∧ VR γ w a x ∧ VRL γ w as xs' := by
  obtain ⟨hl, hk⟩ := h
  cases xs with
  | nil => simp at hl
  | cons x xs => exact ⟨x, xs, rfl, hk 0 (by simp) (by simp), by simpa using hl, fun k h1 h2 => hk (k + 1) (by simpa using h1) (by simpa using h2)⟩
theorem VRL.append {γ : Gh} {w : World} {a1 a2 : List AV} {x1 x2 : List Value} (h1 : VRL γ w a1 x1) (h2 : VRL γ w a2 x2) : VRL γ w (a1 ++ a2) (x1 ++ x2) := by
  refine ⟨by simp [h1.1, h2.1], fun k hk hk' => ?_⟩
  by_cases h : k < a1.length
  · rw [List.getElem_append_left h, List.getElem_append_left (by rw [h1.1]; exact h)]
    exact h1.2 k h _
  · rw [List.getElem_append_right (by omega), List.getElem_append_right (by rw [h1.1]; omega)]
    have := h2.2 (k - a1.length) (by simp at hk; omega) (by rw [h2.1]; simp at hk; omega)
    simpa [h1.1] using this
theorem VRL.drop {γ : Gh} {w : World} {a : List AV} {x : List Value} (n : Nat) (h : VRL γ w a x) : VRL γ w (a.drop n) (x.drop n) := by
  refine ⟨by simp [h.1], fun k hk hk' => ?_⟩
  rw [List.getElem_drop, List.getElem_drop]
  exact h.2 _ _ _
theorem VRL.take {γ : Gh} {w : World} {a : List AV} {x : List Value} (n : Nat) (h : VRL γ w a x) : VRL γ w (a.take n) (x.take n) := by
  refine ⟨by simp [h.1], fun k hk hk' => ?_⟩
  rw [List.getElem_take, List.getElem_take]
  exact h.2 _ _ _
theorem VRL.set {γ : Gh} {w : World} {a : List AV} {x : List Value} (h : VRL γ w a x) (n : Nat) {b : AV} {y : Value} (hy : VR γ w b y) : VRL γ w (a.set n b) (x.set n y) := by
  refine ⟨by simp [h.1], fun k hk hk' => ?_⟩
  rw [List.getElem_set, List.getElem_set]
  split
  · exact hy
  · exact h.2 _ _ _
theorem VRL.get {γ : Gh} {w : World} {a : List AV} {x : List Value} (h : VRL γ w a x) {n : Nat} {b : AV} (hb : a[n]? = some b) : ∃ y, x[n]? = some y ∧ VR γ w b y := by
  obtain ⟨hn, rfl⟩ := List.getElem?_eq_some_iff.1 hb
  have hx : n < x.length := by rw [h.1]; exact hn
  exact ⟨x[n], List.getElem?_eq_getElem hx, h.2 n hn hx⟩
/-- A value of one cell is one. -/
theorem VR.one {γ : Gh} {w : World} {a : AV} {x : Value} (h : VR γ w a x) (h1 : a.one = true) : x.oneCell' = true := by
  cases h <;> first | rfl | (simp [AV.one] at h1; done) | skip
  rename_i hs
  cases x <;> first | rfl | (simp [scalar] at hs)
theorem VR.cells {γ : Gh} {w : World} {a : AV} {x : Value} (h : VR γ w a x) : VRL γ w a.cells x.cells.toList := by
  cases h with
  | agg cs x hx h1 h => exact ⟨by simpa [Value.cells, AV.cells] using hx, by simpa [Value.cells, AV.cells] using h⟩
  | v x hs => cases x <;> first | exact VRL.cons (.v _ hs) (.nil _ _) | (simp [scalar] at hs)
  | ptr id off b s h => exact VRL.cons (.ptr id off b s h) (.nil _ _)
  | ep cs b o c h h1 hr => exact VRL.cons (.ep cs b o c h h1 hr) (.nil _ _)
  | sl tok off sz es b o cap c hsz hes h1 h hr ht hf hc hb => exact VRL.cons (.sl tok off sz es b o cap c hsz hes h1 h hr ht hf hc hb) (.nil _ _)
  | nilp => exact VRL.cons .nilp (.nil _ _)
  | nils => exact VRL.cons .nils (.nil _ _)
  | nilm => exact VRL.cons .nilm (.nil _ _)
  | map id b s h => exact VRL.cons (.map id b s h) (.nil _ _)
  | fn f first caps x y hx hy h1 h2 => exact VRL.cons (.fn f first caps x y hx hy h1 h2) (.nil _ _)
  | iface t a x h => exact VRL.cons (.iface t a x h) (.nil _ _)
  | tup vs x hx h => exact VRL.cons (.tup vs x hx h) (.nil _ _)
  | bs id off n sz b s cap h hc hsz hb => exact VRL.cons (.bs id off n sz b s cap h hc hsz hb) (.nil _ _)
theorem VR.ones {γ : Gh} {w : World} {a : AV} {x : Value} (h : VR γ w a x) (ht : ∀ vs, a ≠ .tup vs) : ∀ c ∈ a.cells, c.one = true := by
  cases h with
  | agg cs x hx h1 h => exact h1
  | tup vs x hx h => exact absurd rfl (ht vs)
  | _ => intro c hc; simp [AV.cells] at hc; subst hc; rfl
theorem VRL.ones {γ : Gh} {w : World} {a : List AV} {x : List Value} (h : VRL γ w a x) (h1 : ∀ c ∈ a, c.one = true) : ∀ u ∈ x, u.oneCell' = true := fun u hu => by
  obtain ⟨k, hk, rfl⟩ := List.getElem_of_mem hu
  have hk' : k < a.length := by rw [← h.1]; exact hk
  exact (h.2 k hk' hk).one (h1 _ (List.getElem_mem hk'))
end Go.Ax
