/-
  Trees in memory over any set of blocks; rows of trees that a call makes by append; what an append leaves of them.
-/
import Derived.Test.YthhkjjdhecpmlaaDoorTrA
import Derived.Laws.AppendOwn
import Derived.Below
namespace Go.Proofs.YthhkjjdhecpmlaaDoor
open Go.RowKit
set_option linter.unusedVariables false
set_option linter.unusedSimpArgs false

/-- The next six of a row of cells. -/
def Sub6 (xs : List Value) (i : Nat) (c0 c1 c2 c3 c4 c5 : Value) : Prop :=
  xs[i]? = some c0 ∧ xs[i + 1]? = some c1 ∧ xs[i + 2]? = some c2 ∧ xs[i + 3]? = some c3 ∧ xs[i + 4]? = some c4 ∧ xs[i + 5]? = some c5

/-- An expression of at most d levels lies in memory, its rows in blocks of a set. -/
def RepP (w : World) (P : Nat → Prop) : Nat → Ex → Value → Prop
  | 0, _, _ => False
  | d + 1, .mk k a n nm off kids, v => ∃ s, v = exVal k a n nm off s ∧
      ((kids = [] ∧ s = .slice none 0 0) ∨
       ∃ b o cap, s = .slice (some ⟨b, o, none⟩) kids.length cap ∧ P b ∧ kids.length ≤ 1000000 ∧
         ∀ i (h : i < kids.length), ∃ c0 c1 c2 c3 c4 c5, Six w b (o + i * 6) c0 c1 c2 c3 c4 c5 ∧ RepP w P d kids[i] (.agg #[c0, c1, c2, c3, c4, c5]))

theorem Six.same {w w' : World} {b o : Nat} {c0 c1 c2 c3 c4 c5 : Value} (h : w'.heap[b]? = w.heap[b]?) (hs : Six w b o c0 c1 c2 c3 c4 c5) : Six w' b o c0 c1 c2 c3 c4 c5 := by
  obtain ⟨h0, h1, h2, h3, h4, h5⟩ := hs
  exact ⟨(World.cell?_of_block (a := ⟨b, o, none⟩) h).trans h0, (World.cell?_of_block (a := ⟨b, o + 1, none⟩) h).trans h1, (World.cell?_of_block (a := ⟨b, o + 2, none⟩) h).trans h2, (World.cell?_of_block (a := ⟨b, o + 3, none⟩) h).trans h3, (World.cell?_of_block (a := ⟨b, o + 4, none⟩) h).trans h4, (World.cell?_of_block (a := ⟨b, o + 5, none⟩) h).trans h5⟩
theorem RepP.keep {w w' : World} {P Q : Nat → Prop} (hPQ : ∀ b, P b → Q b) (hs : ∀ b, P b → w'.heap[b]? = w.heap[b]?) : ∀ {d : Nat} {e : Ex} {v : Value}, RepP w P d e v → RepP w' Q d e v
  | 0, _, _, h => h
  | d + 1, .mk k a n nm off kids, v, h => by
    obtain ⟨s, hv, h⟩ := h
    refine ⟨s, hv, ?_⟩
    rcases h with h | ⟨b, o, cap, hss, hB, hl, h⟩
    · exact Or.inl h
    · refine Or.inr ⟨b, o, cap, hss, hPQ b hB, hl, fun i hi => ?_⟩
      obtain ⟨c0, c1, c2, c3, c4, c5, h6, hr⟩ := h i hi
      exact ⟨c0, c1, c2, c3, c4, c5, h6.same (hs b hB), RepP.keep hPQ hs hr⟩
theorem RepP.rep {w : World} {P : Nat → Prop} {B : Nat} (hP : ∀ b, P b → b < B) : ∀ {d : Nat} {e : Ex} {v : Value}, RepP w P d e v → Rep w B d e v
  | 0, _, _, h => h
  | d + 1, .mk k a n nm off kids, v, h => by
    obtain ⟨s, hv, h⟩ := h
    refine ⟨s, hv, ?_⟩
    rcases h with h | ⟨b, o, cap, hss, hB, hl, h⟩
    · exact Or.inl h
    · refine Or.inr ⟨b, o, cap, hss, hP b hB, hl, fun i hi => ?_⟩
      obtain ⟨c0, c1, c2, c3, c4, c5, h6, hr⟩ := h i hi
      exact ⟨c0, c1, c2, c3, c4, c5, h6, RepP.rep hP hr⟩
theorem Rep.repP {w : World} {B : Nat} : ∀ {d : Nat} {e : Ex} {v : Value}, Rep w B d e v → RepP w (· < B) d e v
  | 0, _, _, h => h
  | d + 1, .mk k a n nm off kids, v, h => by
    obtain ⟨s, hv, h⟩ := h
    refine ⟨s, hv, ?_⟩
    rcases h with h | ⟨b, o, cap, hss, hB, hl, h⟩
    · exact Or.inl h
    · refine Or.inr ⟨b, o, cap, hss, hB, hl, fun i hi => ?_⟩
      obtain ⟨c0, c1, c2, c3, c4, c5, h6, hr⟩ := h i hi
      exact ⟨c0, c1, c2, c3, c4, c5, h6, Rep.repP hr⟩

/-- A row of trees that a call has made, from block base on. -/
def TreeRow (w : World) (base T d : Nat) (v : Value) (es : List Ex) : Prop :=
  ∃ xs : List Value, w.ownsRow base T 6 v es.length xs ∧
    ∀ i (h : i < es.length), ∃ c0 c1 c2 c3 c4 c5, Sub6 xs (i * 6) c0 c1 c2 c3 c4 c5 ∧ RepP w (fun b => base ≤ b ∧ b < w.heap.size ∧ v.ownBlock ≠ some b) d es[i] (.agg #[c0, c1, c2, c3, c4, c5])
theorem TreeRow.nil (w : World) (base T d : Nat) : TreeRow w base T d (.slice none 0 0) [] := ⟨[], World.ownsRow_nil w base T 6, fun i hi => by cases hi⟩
/-- All blocks from base on stand. -/
def Above (base : Nat) (w w' : World) : Prop := w.heap.size ≤ w'.heap.size ∧ ∀ b, base ≤ b → b < w.heap.size → w'.heap[b]? = w.heap[b]?
theorem Above.refl (base : Nat) (w : World) : Above base w w := ⟨Nat.le_refl _, fun _ _ _ => rfl⟩
theorem Above.trans {base : Nat} {w w1 w2 : World} (h : Above base w w1) (h' : Above base w1 w2) : Above base w w2 :=
  ⟨Nat.le_trans h.1 h'.1, fun b h1 h2 => (h'.2 b h1 (Nat.lt_of_lt_of_le h2 h.1)).trans (h.2 b h1 h2)⟩
theorem Above.of_below {base : Nat} {w w' : World} (h : Below w.heap.size w w') : Above base w w' := ⟨h.size, fun b _ h2 => h.block b h2⟩
theorem Above.setCell {base b o : Nat} {w : World} {x : Value} (h : b < base) : Above base w (w.setCell ⟨b, o, none⟩ x) :=
  ⟨by simp, fun b' h1 _ => by
    have := (Below.refl w.heap.size w)
    simp [World.setCell]
    rw [Array.getElem?_modify]
    rw [if_neg (by omega)]⟩
theorem TreeRow.keep {w w' : World} {base T d : Nat} {v : Value} {es : List Ex} (h : TreeRow w base T d v es) (ha : Above base w w') : TreeRow w' base T d v es := by
  obtain ⟨xs, ho, hk⟩ := h
  refine ⟨xs, ⟨ho.1, ?_⟩, fun i hi => ?_⟩
  · rcases ho.2 with hn | ⟨g, cap, cur, hv, hbg, hg, rest⟩
    · exact .inl hn
    · exact .inr ⟨g, cap, cur, hv, hbg, (ha.2 g hbg (Array.getElem?_eq_some_iff.1 hg).1).trans hg, rest⟩
  · obtain ⟨c0, c1, c2, c3, c4, c5, h6, hr⟩ := hk i hi
    exact ⟨c0, c1, c2, c3, c4, c5, h6, hr.keep (fun b hb => ⟨hb.1, Nat.lt_of_lt_of_le hb.2.1 ha.1, hb.2.2⟩) (fun b hb => ha.2 b hb.1 hb.2.1)⟩
/-- What an append leaves: the row has one more, and nothing else that there was is touched. -/
def Grown (base T n : Nat) (v : Value) (xs : List Value) (w : World) (v' : Value) (w' : World) : Prop :=
  w'.ownsRow base T 6 v' n xs ∧ w.grownBy w' v.ownBlock ∧ (v'.ownBlock = v.ownBlock ∨ ∃ g, v'.ownBlock = some g ∧ w.heap.size ≤ g) ∧ ∃ a c, v' = .slice (some a) n c
theorem Sub6.left {xs ys : List Value} {i : Nat} {c0 c1 c2 c3 c4 c5 : Value} (h : Sub6 xs i c0 c1 c2 c3 c4 c5) : Sub6 (xs ++ ys) i c0 c1 c2 c3 c4 c5 := by
  have L : ∀ {j : Nat} {c : Value}, xs[j]? = some c → (xs ++ ys)[j]? = some c := fun {j c} h => by
    rw [List.getElem?_append_left (List.getElem?_eq_some_iff.1 h).1]; exact h
  obtain ⟨h0, h1, h2, h3, h4, h5⟩ := h
  exact ⟨L h0, L h1, L h2, L h3, L h4, L h5⟩
theorem TreeRow.snoc {w w' : World} {base T d : Nat} {v v' : Value} {es : List Ex} {e : Ex} {c0 c1 c2 c3 c4 c5 : Value} {xs : List Value}
    (ho : w.ownsRow base T 6 v es.length xs)
    (hk : ∀ i (h : i < es.length), ∃ c0 c1 c2 c3 c4 c5, Sub6 xs (i * 6) c0 c1 c2 c3 c4 c5 ∧ RepP w (fun b => base ≤ b ∧ b < w.heap.size ∧ v.ownBlock ≠ some b) d es[i] (.agg #[c0, c1, c2, c3, c4, c5]))
    (hr : RepP w (fun b => base ≤ b ∧ b < w.heap.size ∧ v.ownBlock ≠ some b) d e (.agg #[c0, c1, c2, c3, c4, c5]))
    (hg : Grown base T (es.length + 1) v (xs ++ [c0, c1, c2, c3, c4, c5]) w v' w') : TreeRow w' base T d v' (es ++ [e]) := by
  obtain ⟨h1, h2, h3, _⟩ := hg
  have K : ∀ b, base ≤ b ∧ b < w.heap.size ∧ v.ownBlock ≠ some b → base ≤ b ∧ b < w'.heap.size ∧ v'.ownBlock ≠ some b := fun b hb => ⟨hb.1, Nat.lt_of_lt_of_le hb.2.1 h2.size, fun e => by
    rcases h3 with h3 | ⟨g, hg, hgs⟩
    · exact hb.2.2 (h3 ▸ e)
    · rw [hg] at e; injection e with e; omega⟩
  have S : ∀ b, base ≤ b ∧ b < w.heap.size ∧ v.ownBlock ≠ some b → w'.heap[b]? = w.heap[b]? := fun b hb => h2.block b hb.2.1 (fun e => hb.2.2 e.symm)
  have hx : xs.length = es.length * 6 := ho.1
  refine ⟨xs ++ [c0, c1, c2, c3, c4, c5], by rw [List.length_append]; exact h1, fun i hi => ?_⟩
  by_cases hl : i < es.length
  · obtain ⟨d0, d1, d2, d3, d4, d5, h6, hr6⟩ := hk i hl
    refine ⟨d0, d1, d2, d3, d4, d5, h6.left, ?_⟩
    rw [List.getElem_append_left hl]
    exact hr6.keep K S
  · have hi2 : i = es.length := by rw [List.length_append, List.length_singleton] at hi; omega
    subst hi2
    refine ⟨c0, c1, c2, c3, c4, c5, ?_, ?_⟩
    · rw [← hx]
      refine ⟨?_, ?_, ?_, ?_, ?_, ?_⟩ <;> simp [List.getElem?_append_right]
    · rw [List.getElem_append_right (Nat.le_refl _)]
      simp only [Nat.sub_self, List.getElem_cons_zero]
      exact hr.keep K S
/-- A row of trees, its kids' cells. -/
theorem TreeRow.rep {w : World} {base T d : Nat} {v : Value} {es : List Ex} (h : TreeRow w base T d v es) (hl : es.length ≤ 1000000) (k a n : Int) (nm : ByteArray) (off : Bool) :
    RepP w (fun b => base ≤ b ∧ b < w.heap.size) (d + 1) (.mk k a n nm off es) (exVal k a n nm off v) := by
  obtain ⟨xs, ho, hk⟩ := h
  refine ⟨v, rfl, ?_⟩
  rcases ho.2 with ⟨hn, h0⟩ | ⟨g, cap, cur, hv, hbg, hg, _, _, hcs, htk⟩
  · exact .inl ⟨List.eq_nil_of_length_eq_zero h0, hn⟩
  · subst hv
    refine .inr ⟨g, 0, cap, rfl, ⟨hbg, (Array.getElem?_eq_some_iff.1 hg).1⟩, hl, fun i hi => ?_⟩
    obtain ⟨c0, c1, c2, c3, c4, c5, h6, hr⟩ := hk i hi
    have C : ∀ {j : Nat} {c : Value}, xs[j]? = some c → w.cell? ⟨g, 0 + j, none⟩ = some c := fun {j c} h => by
      have := ho.cells (g := g) rfl j c h
      have hadd : (⟨g, 0, none⟩ : Addr).add j = ⟨g, 0 + j, none⟩ := by unfold Addr.add; split <;> simp_all
      rw [hadd] at this
      exact this
    obtain ⟨h0, h1, h2, h3, h4, h5⟩ := h6
    exact ⟨c0, c1, c2, c3, c4, c5, ⟨C h0, C h1, C h2, C h3, C h4, C h5⟩, hr.keep (fun b hb => ⟨hb.1, hb.2.1⟩) (fun b _ => rfl)⟩
/-- An append of one tree's six cells. -/
theorem run_append_tree {P : Program} {w : World} (base : Nat) (t ty e : TypeId) (i : TypeInfo) (z : Value) (bytes : Nat) (ht : P.underlying t = some (.slice e)) (hi : P.info? e = some i) (hz : i.zero = some z)
    (hsize : i.size = 6) (hby : i.bytes = bytes) (hzs : z.cells.size = 6) (v : Value) (n : Nat) (xs : List Value) (hown : w.ownsRow base e 6 v n xs)
    (ad : Addr) (c : Nat) (c0 c1 c2 c3 c4 c5 : Value) (hnews : ∀ j u, [c0, c1, c2, c3, c4, c5][j]? = some u → w.cell? (ad.add j) = some u) (h1 : ∀ u ∈ [c0, c1, c2, c3, c4, c5], u.oneCell' = true)
    (hn : n ≤ 1000000) (hb : bytes ≤ 1000) (hbase : base ≤ w.heap.size) :
    ∃ v' w', (Builtin.append_ #[t, t] ty #[v, .slice (some ad) 1 c]).run P w = .ok v' w' ∧ Grown base e (n + 1) v (xs ++ [c0, c1, c2, c3, c4, c5]) w v' w' := by
  have h63 : n + 1 ≤ maxLen := by unfold maxLen; omega
  have hbytes : (n + 1) * bytes ≤ 140737488355328 := by
    have : (n + 1) * bytes ≤ 1000001 * 1000 := Nat.mul_le_mul (by omega) hb
    omega
  obtain ⟨v', w', hr, h2, h3, h4⟩ := run_append_own (P := P) w base t ty e i z 6 bytes ht hi hz hsize hby hzs (by decide) v n xs hown ad 1 c [c0, c1, c2, c3, c4, c5] rfl hnews h1 h63 hbytes hbase
  refine ⟨v', w', hr, h2, h3, ?_, ?_⟩
  · rcases hown.2 with ⟨rfl, rfl⟩ | ⟨g, cap, cur, rfl, hbg, hg, hnc, hcm, hcs, htake⟩
    · obtain ⟨v2, w2, hr2, h22, _, _⟩ := run_append_own (P := P) w w.heap.size t ty e i z 6 bytes ht hi hz hsize hby hzs (by decide) (.slice none 0 0) 0 [] (World.ownsRow_nil w _ e 6) ad 1 c [c0, c1, c2, c3, c4, c5] rfl hnews h1 h63 hbytes (Nat.le_refl _)
      rw [hr] at hr2
      injection hr2 with ev ew
      subst ev
      rcases h22.2 with ⟨rfl, h0⟩ | ⟨g, cap, cur, rfl, hbg, _⟩
      · omega
      · exact .inr ⟨g, rfl, hbg⟩
    · by_cases hroom : n + 1 ≤ cap
      · have hx : xs.length = n * 6 := hown.1
        have hr2 := run_append_room (P := P) w t ty e i ht hi g n cap cur hg ad 1 c [c0, c1, c2, c3, c4, c5] (by rw [hsize]; rfl) hnews h1 hroom (by
          rw [hsize, hcs]; show n * 6 + 6 ≤ cap * 6; omega)
        rw [hr] at hr2
        injection hr2 with ev ew
        subst ev
        exact .inl rfl
      · have hr2 := run_append_grow (P := P) w t ty e i z ht hi hz ⟨g, 0, none⟩ n cap xs (by rw [hsize]; exact hown.1) (hown.cells (g := g) rfl) ad 1 c [c0, c1, c2, c3, c4, c5] (by rw [hsize]; rfl) hnews (by omega) (by unfold maxLen at h63; omega) (growslice_fits (by omega) (by rw [hby]; exact hbytes))
        rw [hr] at hr2
        injection hr2 with ev ew
        subst ev
        exact .inr ⟨w.heap.size, rfl, Nat.le_refl _⟩
  · rcases h2.2 with ⟨_, h0⟩ | ⟨g, cap, cur, hv, _⟩
    · omega
    · exact ⟨_, _, hv⟩
theorem wp_append_tree {P : Program} {w : World} {o : Oper} {a : Act} {K : Act → World → Prop} {Q : Exit → Act → World → Prop} (s x : Operand) (t : TypeId)
    (ho : o.op = .call { callee := .builtin .append, args := #[s, x], argTypes := #[t, t] })
    (base : Nat) (e : TypeId) (i : TypeInfo) (z : Value) (bytes : Nat) (ht : P.underlying t = some (.slice e)) (hi : P.info? e = some i) (hz : i.zero = some z)
    (hsize : i.size = 6) (hby : i.bytes = bytes) (hzs : z.cells.size = 6) (v : Value) (n : Nat) (xs : List Value) (hs : a.eval s = v) (hown : w.ownsRow base e 6 v n xs)
    (ad : Addr) (c : Nat) (c0 c1 c2 c3 c4 c5 : Value) (hx : a.eval x = .slice (some ad) 1 c) (hnews : ∀ j u, [c0, c1, c2, c3, c4, c5][j]? = some u → w.cell? (ad.add j) = some u) (h1 : ∀ u ∈ [c0, c1, c2, c3, c4, c5], u.oneCell' = true)
    (hn : n ≤ 1000000) (hb : bytes ≤ 1000) (hbase : base ≤ w.heap.size)
    (h : ∀ v' w', Grown base e (n + 1) v (xs ++ [c0, c1, c2, c3, c4, c5]) w v' w' → K (a.put o.dst v') w') : o.wp P a w K Q := by
  obtain ⟨v', w', hr, hg⟩ := run_append_tree base t o.type e i z bytes ht hi hz hsize hby hzs v n xs hown ad c c0 c1 c2 c3 c4 c5 hnews h1 hn hb hbase
  unfold Oper.wp execOp
  simp only [ho, resolve, invoke, builtin, Sem.run_bind, Sem.run_pure, Result.andThen_ok, List.map_toArray, List.map_cons, List.map_nil, hs, hx, hr]
  exact h v' w' hg
theorem wpList_append_tree {P : Program} {w : World} {ops : Array Oper} {rest : List Oper} {o : Oper} {a : Act} {Q : Exit → Act → World → Prop} (hgd : o.guard = none) (s x : Operand) (t : TypeId)
    (ho : o.op = .call { callee := .builtin .append, args := #[s, x], argTypes := #[t, t] })
    (base : Nat) (e : TypeId) (i : TypeInfo) (z : Value) (bytes : Nat) (ht : P.underlying t = some (.slice e)) (hi : P.info? e = some i) (hz : i.zero = some z)
    (hsize : i.size = 6) (hby : i.bytes = bytes) (hzs : z.cells.size = 6) (v : Value) (n : Nat) (xs : List Value) (hs : a.eval s = v) (hown : w.ownsRow base e 6 v n xs)
    (ad : Addr) (c : Nat) (c0 c1 c2 c3 c4 c5 : Value) (hx : a.eval x = .slice (some ad) 1 c) (hnews : ∀ j u, [c0, c1, c2, c3, c4, c5][j]? = some u → w.cell? (ad.add j) = some u) (h1 : ∀ u ∈ [c0, c1, c2, c3, c4, c5], u.oneCell' = true)
    (hn : n ≤ 1000000) (hb : bytes ≤ 1000) (hbase : base ≤ w.heap.size)
    (h : ∀ v' w', Grown base e (n + 1) v (xs ++ [c0, c1, c2, c3, c4, c5]) w v' w' → wpList P ops Q rest (a.put o.dst v') w') : wpList P ops Q (o :: rest) a w :=
  wpList_plain hgd fun _ hK => wp_append_tree s x t ho base e i z bytes ht hi hz hsize hby hzs v n xs hs hown ad c c0 c1 c2 c3 c4 c5 hx hnews h1 hn hb hbase fun v' w' hg => hK _ _ (h v' w' hg)
end Go.Proofs.YthhkjjdhecpmlaaDoor
