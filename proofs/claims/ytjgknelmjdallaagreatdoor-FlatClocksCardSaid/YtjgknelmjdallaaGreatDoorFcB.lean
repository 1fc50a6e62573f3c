/-
  Abstract states: named boxes, rows' ends, maps; how a state stands to a world; what an alloc, a store, an append make of both.
-/
import Derived.Test.YtjgknelmjdallaaGreatDoorFcA
import Derived.Deep.MidRow
import Derived.ArgAppend
noncomputable section
namespace Go.Ax
open Go.RowKit
set_option linter.unusedVariables false
set_option linter.unusedSimpArgs false

/-- Digits, and ways down a tree. -/
inductive D4 where
  | z0
  | z1
  | z2
  | z3
/-- A tree by numbers. -/
inductive T (α : Type) where
  | leaf
  | node (v : Option α) (c0 c1 c2 c3 : T α)
  deriving Inhabited
noncomputable def dig (n : Nat) : D4 := Nat.rec .z0 (fun n _ => Nat.rec .z1 (fun n _ => Nat.rec .z2 (fun _ _ => .z3) n) n) n
noncomputable def pathF (f : Nat) : Nat → List D4 := Nat.rec (fun _ => []) (fun _ ih n => Nat.rec [] (fun k _ => dig (Nat.mod k 4) :: ih (Nat.div k 4)) n) f
noncomputable def path (n : Nat) : List D4 := pathF (Nat.succ n) n
theorem dig_inj {m n : Nat} (hm : m < 4) (hn : n < 4) (h : dig m = dig n) : m = n := by
  match m, hm, n, hn with
  | 0, _, 0, _ => rfl
  | 1, _, 1, _ => rfl
  | 2, _, 2, _ => rfl
  | 3, _, 3, _ => rfl
  | 0, _, 1, _ => cases h
  | 0, _, 2, _ => cases h
  | 0, _, 3, _ => cases h
  | 1, _, 0, _ => cases h
  | 1, _, 2, _ => cases h
  | 1, _, 3, _ => cases h
  | 2, _, 0, _ => cases h
  | 2, _, 1, _ => cases h
  | 2, _, 3, _ => cases h
  | 3, _, 0, _ => cases h
  | 3, _, 1, _ => cases h
  | 3, _, 2, _ => cases h
theorem pathF_succ (f k : Nat) : pathF (f + 1) (k + 1) = dig (k % 4) :: pathF f (k / 4) := rfl
theorem pathF_zero (f : Nat) : pathF (f + 1) 0 = [] := rfl
theorem pathF_inj : ∀ (f g n m : Nat), n < f → m < g → pathF f n = pathF g m → n = m
  | 0, _, _, _, h, _, _ => absurd h (Nat.not_lt_zero _)
  | _ + 1, 0, _, _, _, h, _ => absurd h (Nat.not_lt_zero _)
  | f + 1, g + 1, 0, 0, _, _, _ => rfl
  | f + 1, g + 1, 0, j + 1, _, _, h => by rw [pathF_zero, pathF_succ] at h; cases h
  | f + 1, g + 1, k + 1, 0, _, _, h => by rw [pathF_zero, pathF_succ] at h; cases h
  | f + 1, g + 1, k + 1, j + 1, hn, hm, h => by
    rw [pathF_succ, pathF_succ] at h
    injection h with h1 h2
    have e1 := dig_inj (Nat.mod_lt _ (by decide)) (Nat.mod_lt _ (by decide)) h1
    have e2 := pathF_inj f g (k / 4) (j / 4) (by omega) (by omega) h2
    omega
theorem path_inj {n m : Nat} (h : path n = path m) : n = m := pathF_inj _ _ n m (Nat.lt_succ_self _) (Nat.lt_succ_self _) h
noncomputable def T.getP {α : Type} (t : T α) : List D4 → Option α :=
  T.rec (fun _ => none) (fun v _ _ _ _ i0 i1 i2 i3 p => List.rec v (fun d r _ => D4.rec i0 i1 i2 i3 d r) p) t
def T.sNa {α : Type} (v : Option α) (c0 c1 c2 c3 : T α) (ih : T α → Option α → T α) (x : Option α) : T α := .node v (ih c0 x) c1 c2 c3
def T.sNb {α : Type} (v : Option α) (c0 c1 c2 c3 : T α) (ih : T α → Option α → T α) (x : Option α) : T α := .node v c0 (ih c1 x) c2 c3
def T.sNc {α : Type} (v : Option α) (c0 c1 c2 c3 : T α) (ih : T α → Option α → T α) (x : Option α) : T α := .node v c0 c1 (ih c2 x) c3
def T.sNd {α : Type} (v : Option α) (c0 c1 c2 c3 : T α) (ih : T α → Option α → T α) (x : Option α) : T α := .node v c0 c1 c2 (ih c3 x)
noncomputable def T.setP {α : Type} (p : List D4) : T α → Option α → T α :=
  List.rec (fun t x => T.rec (.node x .leaf .leaf .leaf .leaf) (fun _ c0 c1 c2 c3 _ _ _ _ => .node x c0 c1 c2 c3) t)
    (fun d _ ih t x => T.rec (D4.rec T.sNa T.sNb T.sNc T.sNd d none .leaf .leaf .leaf .leaf ih x) (fun v c0 c1 c2 c3 _ _ _ _ => D4.rec T.sNa T.sNb T.sNc T.sNd d v c0 c1 c2 c3 ih x) t) p
noncomputable def T.get {α : Type} (t : T α) (n : Nat) : Option α := T.getP t (path n)
noncomputable def T.set {α : Type} (t : T α) (n : Nat) (x : Option α) : T α := T.setP (path n) t x
theorem T.getP_leaf {α : Type} (p : List D4) : (T.leaf : T α).getP p = none := rfl
theorem T.getP_setP {α : Type} : ∀ (p q : List D4) (t : T α) (x : Option α), (T.setP p t x).getP q = open Classical in if q = p then x else t.getP q
  | [], [], .leaf, x => by rw [if_pos rfl]; rfl
  | [], [], .node .., x => by rw [if_pos rfl]; rfl
  | [], e :: q, .leaf, x => by rw [if_neg (by simp)]; cases e <;> rfl
  | [], e :: q, .node .., x => by rw [if_neg (by simp)]; rfl
  | d :: p, [], .leaf, x => by rw [if_neg (by simp)]; cases d <;> rfl
  | d :: p, [], .node .., x => by rw [if_neg (by simp)]; cases d <;> rfl
  | d :: p, e :: q, .leaf, x => by
    have ih := T.getP_setP p q (T.leaf) x
    cases d <;> cases e <;> first
      | (show (T.setP p .leaf x).getP q = _; rw [ih]; by_cases h : q = p <;> simp [h, T.getP_leaf])
      | (rw [if_neg (by simp)]; rfl)
  | d :: p, e :: q, .node v c0 c1 c2 c3, x => by
    cases d <;> cases e <;> first
      | (rw [if_neg (by simp)]; rfl)
      | (show (T.setP p c0 x).getP q = _; rw [T.getP_setP p q c0 x]; by_cases h : q = p <;> simp [h] <;> rfl)
      | (show (T.setP p c1 x).getP q = _; rw [T.getP_setP p q c1 x]; by_cases h : q = p <;> simp [h] <;> rfl)
      | (show (T.setP p c2 x).getP q = _; rw [T.getP_setP p q c2 x]; by_cases h : q = p <;> simp [h] <;> rfl)
      | (show (T.setP p c3 x).getP q = _; rw [T.getP_setP p q c3 x]; by_cases h : q = p <;> simp [h] <;> rfl)
theorem T.setP_comm {α : Type} : ∀ (p q : List D4) (t : T α) (x y : Option α), p ≠ q → T.setP p (T.setP q t y) x = T.setP q (T.setP p t x) y
  | [], [], _, _, _, h => absurd rfl h
  | [], e :: q, .leaf, x, y, _ => by cases e <;> rfl
  | [], e :: q, .node .., x, y, _ => by cases e <;> rfl
  | d :: p, [], .leaf, x, y, _ => by cases d <;> rfl
  | d :: p, [], .node .., x, y, _ => by cases d <;> rfl
  | d :: p, e :: q, .leaf, x, y, h => by
    cases d <;> cases e <;> first
      | rfl
      | (have ih := T.setP_comm p q (T.leaf) x y (fun e => h (by rw [e])); first
          | (show T.node _ (T.setP p (T.setP q .leaf y) x) _ _ _ = T.node _ (T.setP q (T.setP p .leaf x) y) _ _ _; rw [ih])
          | (show T.node _ _ (T.setP p (T.setP q .leaf y) x) _ _ = T.node _ _ (T.setP q (T.setP p .leaf x) y) _ _; rw [ih])
          | (show T.node _ _ _ (T.setP p (T.setP q .leaf y) x) _ = T.node _ _ _ (T.setP q (T.setP p .leaf x) y) _; rw [ih])
          | (show T.node _ _ _ _ (T.setP p (T.setP q .leaf y) x) = T.node _ _ _ _ (T.setP q (T.setP p .leaf x) y); rw [ih]))
  | d :: p, e :: q, .node v c0 c1 c2 c3, x, y, h => by
    cases d <;> cases e <;> first
      | rfl
      | (have ih := fun t => T.setP_comm p q t x y (fun e => h (by rw [e])); first
          | (show T.node _ (T.setP p (T.setP q c0 y) x) _ _ _ = T.node _ (T.setP q (T.setP p c0 x) y) _ _ _; rw [ih])
          | (show T.node _ _ (T.setP p (T.setP q c1 y) x) _ _ = T.node _ _ (T.setP q (T.setP p c1 x) y) _ _; rw [ih])
          | (show T.node _ _ _ (T.setP p (T.setP q c2 y) x) _ = T.node _ _ _ (T.setP q (T.setP p c2 x) y) _; rw [ih])
          | (show T.node _ _ _ _ (T.setP p (T.setP q c3 y) x) = T.node _ _ _ _ (T.setP q (T.setP p c3 x) y); rw [ih]))
theorem T.get_leaf {α : Type} (n : Nat) : (T.leaf : T α).get n = none := rfl
theorem T.get_set {α : Type} (t : T α) (n m : Nat) (x : Option α) : (t.set n x).get m = if m = n then x else t.get m := by
  unfold T.get T.set
  rw [T.getP_setP]
  by_cases h : m = n
  · rw [if_pos h, if_pos (by rw [h])]
  · rw [if_neg h, if_neg (fun e => h (path_inj e))]
theorem T.set_comm {α : Type} (t : T α) {n m : Nat} (h : n ≠ m) (x y : Option α) : (t.set m y).set n x = (t.set n x).set m y :=
  T.setP_comm _ _ t x y (fun e => h (path_inj e))

/-- What a name names: a variable's cells; where a row that may grow ends; a map. -/
inductive Cell where
  | box (cs : List AV)
  | tip (m : Nat)
  | mp (es : List (Value × AV))
  deriving Inhabited
structure St where
  next : Nat
  mem : T Cell
  deriving Inhabited

def MapR (γ : Gh) (w : World) (es : List (Value × AV)) (ms : List MapEntry) : Prop :=
  ms.length = es.length ∧ ∀ k (h : k < es.length) (h' : k < ms.length), ms[k].key = es[k].1 ∧ VR γ w es[k].2 ms[k].val

def CellR (γ : Gh) (w : World) (b s : Nat) : Cell → Prop
  | .box cs => s = 0 ∧ (∀ o, ¬ γ.im b o) ∧ (∀ c ∈ cs, c.one = true) ∧ ∃ (arr : Array Value) (T : TypeId) (x y : List Value), w.heap[b]? = some (Obj.cells arr T (0, 0)) ∧ arr.toList = x ++ y ∧ VRL γ w cs x
  | .tip m => ∃ (arr : Array Value) (T : TypeId), w.heap[b]? = some (Obj.cells arr T (0, 0)) ∧ (∀ k, γ.im b k → k < s + m) ∧ s + m ≤ arr.size
  | .mp es => s = 0 ∧ ∃ (ms : Array MapEntry) (clock : Nat), w.heap[b]? = some (Obj.map ms clock) ∧ MapR γ w es ms.toList

structure SR (base : Nat) (w0 : World) (γ : Gh) (S : St) (w : World) : Prop where
  below : Below base w0 w
  hbase : base ≤ w.heap.size
  imc : ∀ b o, γ.im b o → ∃ v, w.cell? ⟨b, o, none⟩ = some v
  fresh : ∀ id, S.next ≤ id → γ.loc id = none ∧ S.mem.get id = none
  pos : 2 ≤ S.next
  inb : ∀ id b s, γ.loc id = some (b, s) → b < w.heap.size
  live : ∀ id c, S.mem.get id = some c → ∃ b s, γ.loc id = some (b, s) ∧ base ≤ b ∧ CellR γ w b s c
  inj : ∀ id id' c c' b s s', S.mem.get id = some c → S.mem.get id' = some c' → γ.loc id = some (b, s) → γ.loc id' = some (b, s') → id = id'

theorem CellR.keep {γ γ' : Gh} {w w' : World} {b s : Nat} {c : Cell} (h : CellR γ w b s c) (e : Ev γ w γ' w') (hb : w'.heap[b]? = w.heap[b]?) (hi : ∀ o, γ'.im b o → γ.im b o) : CellR γ' w' b s c := by
  cases c with
  | box cs =>
    obtain ⟨h0, h1, h2, arr, T, x, y, ha, hx, hr⟩ := h
    exact ⟨h0, fun o ho => h1 o (hi o ho), h2, arr, T, x, y, hb.trans ha, hx, hr.mono e⟩
  | tip m =>
    obtain ⟨arr, T, ha, h1, h2⟩ := h
    exact ⟨arr, T, hb.trans ha, fun k hk => h1 k (hi k hk), h2⟩
  | mp es =>
    obtain ⟨h0, ms, clock, ha, h1, h2⟩ := h
    exact ⟨h0, ms, clock, hb.trans ha, h1, fun k hk hk' => ⟨(h2 k hk hk').1, (h2 k hk hk').2.mono e⟩⟩
theorem imc_lt {base : Nat} {w0 w : World} {γ : Gh} {S : St} (h : SR base w0 γ S w) {b o : Nat} (hi : γ.im b o) : b < w.heap.size := by
  obtain ⟨v, hv⟩ := h.imc b o hi
  exact World.block_lt_of_cell? w _ hv

/-- The same memory: a draw, say. -/
theorem SR.same {base : Nat} {w0 w w' : World} {γ : Gh} {S : St} (h : SR base w0 γ S w) (hh : w'.heap = w.heap) (ho : w'.os = w.os) (ht : w'.tape = w.tape) (hu : w'.output = w.output) : SR base w0 γ S w' ∧ Ev γ w γ w' := by
  have hc : ∀ a, w'.cell? a = w.cell? a := fun a => by unfold World.cell?; rw [hh]
  have ev : Ev γ w γ w' := ⟨fun _ _ h => h, fun _ _ h => h, fun b o v _ hv => (hc _).trans hv, fun b arr T fr ha => ⟨arr, fr, by rw [hh]; exact ha, rfl⟩⟩
  exact ⟨⟨⟨ho.trans h.below.os, ht.trans h.below.tape, hu.trans h.below.output, by rw [hh]; exact h.below.size, fun k hk => by rw [hh]; exact h.below.block k hk⟩, by rw [hh]; exact h.hbase,
    fun b o hi => by obtain ⟨v, hv⟩ := h.imc b o hi; exact ⟨v, (hc _).trans hv⟩, h.fresh, h.pos, fun id b s e => by rw [hh]; exact h.inb id b s e,
    fun id c e => by obtain ⟨b, s, h1, h2, h3⟩ := h.live id c e; exact ⟨b, s, h1, h2, h3.keep ev (by rw [hh]) (fun _ h => h)⟩, h.inj⟩, ev⟩
theorem SR.drew {base : Nat} {w0 w : World} {γ : Gh} {S : St} (h : SR base w0 γ S w) : SR base w0 γ S w.drew ∧ Ev γ w γ w.drew := h.same rfl rfl rfl rfl

/-- A new block whose first cells stay as they are (no name, or one for its end). -/
def Gh.withIm (γ : Gh) (b s n : Nat) : Gh := { γ with im := fun b' o => γ.im b' o ∨ (b' = b ∧ s ≤ o ∧ o < s + n) }
def Gh.withLoc (γ : Gh) (id b s : Nat) : Gh := { γ with loc := fun i => if i = id then some (b, s) else γ.loc i }
theorem alloc_cell {w : World} {o : Obj} {b k : Nat} {v : Value} (h : w.cell? ⟨b, k, none⟩ = some v) : (w.alloc o).cell? ⟨b, k, none⟩ = some v :=
  (World.cell?_of_block (a := ⟨b, k, none⟩) (Below.heap_alloc w o _ (World.block_lt_of_cell? w _ h))).trans h
theorem alloc_new_cell (w : World) (arr : Array Value) (T : TypeId) {fr : Nat × Nat} {k : Nat} {v : Value} (h : arr[k]? = some v) : (w.alloc (.cells arr T fr)).cell? ⟨w.heap.size, k, none⟩ = some v := by
  unfold World.cell?; rw [heap_alloc_new]; simpa using h
theorem ev_alloc (γ : Gh) (w : World) (o : Obj) : Ev γ w γ (w.alloc o) :=
  ⟨fun _ _ h => h, fun _ _ h => h, fun _ _ _ _ h => alloc_cell h, fun b arr T fr h => ⟨arr, fr, (Below.heap_alloc w o _ (Array.getElem?_eq_some_iff.1 h).1).trans h, rfl⟩⟩
theorem ev_im (γ : Gh) (w : World) (b s n : Nat) : Ev γ w (γ.withIm b s n) w := ⟨fun _ _ h => h, fun _ _ h => .inl h, fun _ _ _ _ h => h, fun b arr T fr h => ⟨arr, fr, h, rfl⟩⟩
theorem ev_loc {γ : Gh} {w : World} {id b s : Nat} (h : γ.loc id = none) : Ev γ w (γ.withLoc id b s) w :=
  ⟨fun i x e => by
    show (if i = id then some (b, s) else γ.loc i) = some x
    rw [if_neg (fun e2 => by subst e2; rw [h] at e; cases e)]; exact e, fun _ _ h => h, fun _ _ _ _ h => h, fun b arr T fr h => ⟨arr, fr, h, rfl⟩⟩

/-- A block more, some of whose cells stay. -/
theorem SR.allocIm {base : Nat} {w0 w : World} {γ : Gh} {S : St} (h : SR base w0 γ S w) (arr : Array Value) (T : TypeId) (n : Nat) (hn : n ≤ arr.size) (fr : Nat × Nat := (0, 0)) :
    SR base w0 (γ.withIm w.heap.size 0 n) S (w.alloc (.cells arr T fr)) ∧ Ev γ w (γ.withIm w.heap.size 0 n) (w.alloc (.cells arr T fr)) := by
  have ev : Ev γ w (γ.withIm w.heap.size 0 n) (w.alloc (.cells arr T fr)) := (ev_alloc γ w _).trans (ev_im γ _ _ _ _)
  refine ⟨⟨h.below.alloc h.hbase _, by have := h.hbase; simp; omega, ?_, h.fresh, h.pos, fun id b s e => by have := h.inb id b s e; simp; omega, ?_, h.inj⟩, ev⟩
  · rintro b o (hi | ⟨rfl, _, ho⟩)
    · obtain ⟨v, hv⟩ := h.imc b o hi; exact ⟨v, alloc_cell hv⟩
    · exact ⟨arr[o]'(by omega), alloc_new_cell w arr T (Array.getElem?_eq_getElem (by omega))⟩
  · intro id c e
    obtain ⟨b, s, h1, h2, h3⟩ := h.live id c e
    have hb := h.inb id b s h1
    exact ⟨b, s, h1, h2, h3.keep ev (Below.heap_alloc w _ _ hb) (fun o ho => ho.resolve_right (fun ⟨e, _⟩ => by omega))⟩
/-- A name for something new. -/
theorem SR.name {base : Nat} {w0 w : World} {γ : Gh} {S : St} (h : SR base w0 γ S w) (b s : Nat) (c : Cell) (hb : base ≤ b) (hlt : b < w.heap.size) (hc : CellR γ w b s c)
    (hnew : ∀ id c s', S.mem.get id = some c → γ.loc id ≠ some (b, s')) :
    SR base w0 (γ.withLoc S.next b s) { next := S.next + 1, mem := S.mem.set S.next (some c) } w ∧ Ev γ w (γ.withLoc S.next b s) w := by
  have hf := h.fresh S.next (Nat.le_refl _)
  have ev : Ev γ w (γ.withLoc S.next b s) w := ev_loc hf.1
  have L : ∀ id, (γ.withLoc S.next b s).loc id = if id = S.next then some (b, s) else γ.loc id := fun _ => rfl
  refine ⟨⟨h.below, h.hbase, h.imc, fun id hid => ?_, Nat.le_succ_of_le h.pos, fun id b' s' e => ?_, fun id c' e => ?_, fun id id' c1 c2 b' s1 s2 e1 e2 l1 l2 => ?_⟩, ev⟩
  · have hid : S.next + 1 ≤ id := hid
    have := h.fresh id (by omega)
    show (if id = S.next then some (b, s) else γ.loc id) = none ∧ (S.mem.set S.next (some c)).get id = none
    rw [T.get_set, if_neg (by omega), if_neg (by omega)]
    exact this
  · rw [L] at e
    split at e
    · injection e with e; injection e with e1 e2; subst e1; exact hlt
    · exact h.inb id b' s' e
  · have e : (S.mem.set S.next (some c)).get id = some c' := e
    rw [T.get_set] at e
    split at e
    · rename_i hid
      injection e with e; subst e; subst hid
      exact ⟨b, s, by rw [L, if_pos rfl], hb, hc.keep ev rfl (fun _ h => h)⟩
    · rename_i hid
      obtain ⟨b', s', h1, h2, h3⟩ := h.live id c' e
      exact ⟨b', s', by rw [L, if_neg hid]; exact h1, h2, h3.keep ev rfl (fun _ h => h)⟩
  · have e1 : (S.mem.set S.next (some c)).get id = some c1 := e1
    have e2 : (S.mem.set S.next (some c)).get id' = some c2 := e2
    rw [T.get_set] at e1 e2
    rw [L] at l1 l2
    split at e1 <;> split at e2
    · omega
    · rename_i hid hid'
      rw [if_pos hid] at l1; rw [if_neg hid'] at l2
      injection l1 with l1; injection l1 with l11 l12; subst l11
      exact absurd l2 (hnew id' c2 s2 e2)
    · rename_i hid hid'
      rw [if_neg hid] at l1; rw [if_pos hid'] at l2
      injection l2 with l2; injection l2 with l21 l22; subst l21
      exact absurd l1 (hnew id c1 s1 e1)
    · rename_i hid hid'
      rw [if_neg hid] at l1; rw [if_neg hid'] at l2
      exact h.inj id id' c1 c2 b' s1 s2 e1 e2 l1 l2
theorem SR.newBox {base : Nat} {w0 w : World} {γ : Gh} {S : St} (h : SR base w0 γ S w) (T : TypeId) {cs : List AV} {x : List Value} (hr : VRL γ w cs x) (h1 : ∀ c ∈ cs, c.one = true) :
    SR base w0 (γ.withLoc S.next w.heap.size 0) { next := S.next + 1, mem := S.mem.set S.next (some (.box cs)) } (w.alloc (.cells x.toArray T)) ∧
    Ev γ w (γ.withLoc S.next w.heap.size 0) (w.alloc (.cells x.toArray T)) := by
  obtain ⟨a1, a2⟩ := h.allocIm x.toArray T 0 (Nat.zero_le _)
  have h0 : SR base w0 γ S (w.alloc (.cells x.toArray T)) := by
    refine ⟨a1.below, a1.hbase, fun b o hi => a1.imc b o (.inl hi), a1.fresh, a1.pos, a1.inb, fun id c e => ?_, a1.inj⟩
    obtain ⟨b, s, l1, l2, l3⟩ := h.live id c e
    exact ⟨b, s, l1, l2, l3.keep (ev_alloc γ w _) (Below.heap_alloc w _ _ (h.inb id b s l1)) (fun _ h => h)⟩
  have key := h0.name w.heap.size 0 (.box cs) h.hbase (by simp) ⟨rfl, fun o ho => by have := imc_lt h ho; omega, h1, x.toArray, T, x, [], heap_alloc_new w _, by simp, hr.mono (ev_alloc γ w _)⟩
    (fun id c s' e l => by have := h.inb id _ _ l; omega)
  exact ⟨key.1, (ev_alloc γ w _).trans key.2⟩
theorem SR.newMap {base : Nat} {w0 w : World} {γ : Gh} {S : St} (h : SR base w0 γ S w) :
    SR base w0 (γ.withLoc S.next w.heap.size 0) { next := S.next + 1, mem := S.mem.set S.next (some (.mp [])) } (w.alloc (.map #[] 0)) ∧
    Ev γ w (γ.withLoc S.next w.heap.size 0) (w.alloc (.map #[] 0)) := by
  have ev := ev_alloc γ w (.map #[] 0)
  have h0 : SR base w0 γ S (w.alloc (.map #[] 0)) := by
    refine ⟨h.below.alloc h.hbase _, by have := h.hbase; simp; omega, fun b o hi => ?_, h.fresh, h.pos, fun id b s e => by have := h.inb id b s e; simp; omega, fun id c e => ?_, h.inj⟩
    · obtain ⟨v, hv⟩ := h.imc b o hi; exact ⟨v, alloc_cell hv⟩
    · obtain ⟨b, s, l1, l2, l3⟩ := h.live id c e
      exact ⟨b, s, l1, l2, l3.keep ev (Below.heap_alloc w _ _ (h.inb id b s l1)) (fun _ h => h)⟩
  have key := h0.name w.heap.size 0 (.mp []) h.hbase (by simp) ⟨rfl, #[], 0, heap_alloc_new w _, rfl, fun k hk => by cases hk⟩ (fun id c s' e l => by have := h.inb id _ _ l; omega)
  exact ⟨key.1, ev.trans key.2⟩
theorem setCells_block (b : Nat) : ∀ (vs : List Value) (o : Nat) (w : World) (arr : Array Value) (T : TypeId) (fr : Nat × Nat), w.heap[b]? = some (Obj.cells arr T fr) →
    (∃ arr', (w.setCells b o vs).heap[b]? = some (Obj.cells arr' T fr) ∧ arr'.size = arr.size) ∧ ∀ k, k ≠ b → (w.setCells b o vs).heap[k]? = w.heap[k]?
  | [], o, w, arr, T, fr, h => ⟨⟨arr, h, rfl⟩, fun _ _ => rfl⟩
  | v :: r, o, w, arr, T, fr, h => by
    have hlt := (Array.getElem?_eq_some_iff.1 h).1
    have h1 : (w.setCell ⟨b, o, none⟩ v).heap[b]? = some (Obj.cells (arr.setIfInBounds o v) T fr) := by
      have h' : w.heap[b] = .cells arr T fr := by simpa [Array.getElem?_eq_getElem hlt] using h
      show (w.heap.modify b _)[b]? = _
      rw [Array.getElem?_eq_getElem (by simpa using hlt), Array.getElem_modify_self, h']
      rfl
    obtain ⟨⟨arr', ha, hs⟩, hk⟩ := setCells_block b r (o + 1) (w.setCell ⟨b, o, none⟩ v) _ T fr h1
    exact ⟨⟨arr', ha, by simpa using hs⟩, fun k hne => (hk k hne).trans (Below.heap_setCell w ⟨b, o, none⟩ v k hne)⟩
theorem setCells_rest (b : Nat) : ∀ (vs : List Value) (o : Nat) (w : World), (w.setCells b o vs).os = w.os ∧ (w.setCells b o vs).tape = w.tape ∧ (w.setCells b o vs).output = w.output ∧ (w.setCells b o vs).heap.size = w.heap.size
  | [], _, _ => ⟨rfl, rfl, rfl, rfl⟩
  | v :: r, o, w => by
    obtain ⟨h1, h2, h3, h4⟩ := setCells_rest b r (o + 1) (w.setCell ⟨b, o, none⟩ v)
    exact ⟨h1, h2, h3, h4.trans (by simp [World.setCell])⟩
theorem below_setCells {B : Nat} {w0 w : World} (h : Below B w0 w) (b o : Nat) (vs : List Value) (hb : B ≤ b) (hh : ∀ k, k ≠ b → (w.setCells b o vs).heap[k]? = w.heap[k]?) : Below B w0 (w.setCells b o vs) := by
  obtain ⟨h1, h2, h3, h4⟩ := setCells_rest b vs o w
  exact h.trans ⟨h1, h2, h3, by omega, fun k hk => hh k (by omega)⟩
theorem cells_at {w : World} {b T : Nat} {arr : Array Value} {fr : Nat × Nat} (h : w.heap[b]? = some (Obj.cells arr T fr)) (k : Nat) : w.cell? ⟨b, k, none⟩ = arr[k]? := by simp [World.cell?, h]
/-- What is stored in a variable. -/
theorem SR.store {base : Nat} {w0 w : World} {γ : Gh} {S : St} (h : SR base w0 γ S w) {id b s : Nat} {cs : List AV} (hm : S.mem.get id = some (.box cs)) (hl : γ.loc id = some (b, s)) {off : Nat} {ys : List AV} {y : List Value}
    (hy : VRL γ w ys y) (h1 : ∀ c ∈ ys, c.one = true) (hfit : off + ys.length ≤ cs.length) :
    SR base w0 γ { S with mem := S.mem.set id (some (.box (cs.take off ++ ys ++ cs.drop (off + ys.length)))) } (w.setCells b (s + off) y) ∧ Ev γ w γ (w.setCells b (s + off) y) := by
  obtain ⟨b2, s2, l1, l2, l3⟩ := h.live id _ hm
  rw [hl] at l1; injection l1 with l1; injection l1 with e1 e2; subst e1; subst e2
  obtain ⟨rfl, ho, hone, arr, T, x, y0, ha, hx, hr⟩ := l3
  obtain ⟨⟨arr', ha', hs'⟩, hk⟩ := setCells_block b y (0 + off) w arr T (0, 0) ha
  have hxl : x.length ≤ arr.size := by have := congrArg List.length hx; simp at this; omega
  have hcl := hr.1
  have hyl := hy.1
  have ev : Ev γ w γ (w.setCells b (0 + off) y) := by
    refine ⟨fun _ _ h => h, fun _ _ h => h, fun b' o v hi hv => ?_, fun b' arr2 T2 fr2 h2 => ?_⟩
    · by_cases e : b' = b
      · subst e; exact absurd hi (ho o)
      · exact (World.cell?_of_block (a := ⟨b', o, none⟩) (hk b' e)).trans hv
    · by_cases e : b' = b
      · subst e
        rw [ha] at h2; injection h2 with h2; injection h2 with q1 q2 q3; subst q1; subst q2; subst q3
        exact ⟨arr', _, ha', hs'⟩
      · exact ⟨arr2, fr2, (hk b' e).trans h2, rfl⟩
  have G : ∀ i, (S.mem.set id (some (.box (cs.take off ++ ys ++ cs.drop (off + ys.length))))).get i = if i = id then some (.box (cs.take off ++ ys ++ cs.drop (off + ys.length))) else S.mem.get i := fun i => Go.Ax.T.get_set _ _ _ _
  obtain ⟨r1, r2, r3, r4⟩ := setCells_rest b y (0 + off) w
  refine ⟨⟨below_setCells h.below b _ y l2 hk, by rw [r4]; exact h.hbase, fun b' o hi => ?_, fun i hi => ?_, h.pos, fun i b' s' e => by rw [r4]; exact h.inb i b' s' e, fun i c e => ?_, fun i i' c1 c2 b' s1 s2 e1 e2 q1 q2 => ?_⟩, ev⟩
  · obtain ⟨v, hv⟩ := h.imc b' o hi; exact ⟨v, ev.cell b' o v hi hv⟩
  · have := h.fresh i hi
    refine ⟨this.1, ?_⟩
    show (S.mem.set id _).get i = none
    rw [G, if_neg (fun e => by subst e; rw [hl] at this; cases this.1)]
    exact this.2
  · have e : (S.mem.set id _).get i = some c := e
    rw [G] at e
    split at e
    · rename_i hid
      injection e with e; subst e; subst hid
      refine ⟨b, 0, hl, l2, rfl, ho, fun c hc => ?_, arr', T, arr'.toList.take cs.length, arr'.toList.drop cs.length, ha', (List.take_append_drop _ _).symm, ?_, fun k hk1 hk2 => ?_⟩
      · simp only [List.mem_append] at hc
        rcases hc with (hc | hc) | hc
        · exact hone c (List.mem_of_mem_take hc)
        · exact h1 c hc
        · exact hone c (List.mem_of_mem_drop hc)
      · simp; omega
      · have hk3 : k < cs.length := by simp at hk2; omega
        have hk5 : k < arr'.toList.length := by simp; omega
        rw [List.getElem_take]
        have cell : (w.setCells b (0 + off) y).cell? ⟨b, k, none⟩ = some arr'.toList[k] := by rw [cells_at ha']; simp
        by_cases hin : off ≤ k ∧ k < off + ys.length
        · have hc := World.cell?_setCells_in b y (0 + off) w (fun j hj => by rw [cells_at ha]; simp; omega) (k - off) (by omega)
          rw [show 0 + off + (k - off) = k by omega, cell] at hc
          injection hc with hc
          rw [hc]
          have hv := (hy.2 (k - off) (by omega) (by omega)).mono ev
          have : (cs.take off ++ ys ++ cs.drop (off + ys.length))[k] = ys[k - off]'(by omega) := by
            rw [List.getElem_append_left (by simp; omega), List.getElem_append_right (by simp; omega)]
            congr 1
            simp; omega
          rw [this]; exact hv
        · have hc := World.cell?_setCells_out b y (0 + off) w ⟨b, k, none⟩ (fun _ _ => by show k < _ ∨ _ ≤ k; omega)
          rw [cell, cells_at ha] at hc
          have hk4 : k < arr.size := by omega
          rw [Array.getElem?_eq_getElem hk4] at hc
          injection hc with hc
          have hxe : arr[k] = x[k]'(by omega) := by
            have h9 : arr.toList[k]'(by simpa using hk4) = (x ++ y0)[k]'(by rw [← hx]; simpa using hk4) := by simp only [hx]
            rw [List.getElem_append_left (by omega)] at h9
            simpa using h9
          rw [hc, hxe]
          have hv := (hr.2 k hk3 (by omega)).mono ev
          have : (cs.take off ++ ys ++ cs.drop (off + ys.length))[k] = cs[k] := by
            by_cases hlt : k < off
            · rw [List.getElem_append_left (by simp; omega), List.getElem_append_left (by simp; omega), List.getElem_take]
            · rw [List.getElem_append_right (by simp; omega), List.getElem_drop]
              congr 1
              simp; omega
          rw [this]; exact hv
    · rename_i hid
      obtain ⟨b', s', q1, q2, q3⟩ := h.live i c e
      have hbb : b' ≠ b := fun eb => by subst eb; exact hid (h.inj i id c _ b' s' 0 e hm q1 hl)
      exact ⟨b', s', q1, q2, q3.keep ev (hk b' hbb) (fun _ h => h)⟩
  · have e1 : (S.mem.set id _).get i = some c1 := e1
    have e2 : (S.mem.set id _).get i' = some c2 := e2
    rw [G] at e1 e2
    have E1 : ∃ c, S.mem.get i = some c := by split at e1; · rename_i hq; exact ⟨_, hq ▸ hm⟩
                                              · exact ⟨_, e1⟩
    have E2 : ∃ c, S.mem.get i' = some c := by split at e2; · rename_i hq; exact ⟨_, hq ▸ hm⟩
                                               · exact ⟨_, e2⟩
    obtain ⟨d1, E1⟩ := E1
    obtain ⟨d2, E2⟩ := E2
    exact h.inj i i' d1 d2 b' s1 s2 E1 E2 q1 q2
end Go.Ax
