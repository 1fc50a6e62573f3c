/-
  girandolelaw02.Some: the first part: kind, place, how many kids, name.
-/
import Derived.Test.YthhkjjdhecpmlaaDoorSo
import Derived.Test.YthhkjjdhecpmlaaDoorCq
import Derived.Test.YthhkjjdhecpmlaaDoorLxJ
import Derived.Deep.RegionHeld3
import Derived.RegionTactic
import Derived.ChangeAlike
import Derived.Deep.DeepCutAuto
import Derived.Deep.CutBlock
import Derived.Deep.CutRange
import Derived.StillTailTactics
namespace Go.Proofs.YthhkjjdhecpmlaaDoor
open Go.RowKit
set_option linter.unusedVariables false
set_option linter.unusedSimpArgs false
theorem wpAnyH_mono {P : Program} {ops : Array Oper} {Q : Exit → Act → World → Prop} {md : Region.Mode} {S S' : World → Prop} (h : ∀ w, S' w → S w) : ∀ (fuel : Nat) (listed : Array Bool) (a : Act) (w : World), wpAnyH P md ops Q S' fuel listed a w → wpAnyH P md ops Q S fuel listed a w
  | 0, _, _, _, hh => hh
  | fuel + 1, _, _, _, hh => ⟨hh.1, fun i hi => wpOp_mono (fun a' w' h' => ⟨h w' h'.1, wpAnyH_mono h fuel _ a' w' h'.2⟩) (hh.2 i hi)⟩
theorem kinds_at (w : World) (q : Nat) (h : q < 19) : ∃ K : Int, (1 ≤ K ∧ K ≤ 14) ∧ (w.alloc (.cells #[.int .i64 3, .int .i64 1, .int .i64 2, .int .i64 3, .int .i64 4, .int .i64 5, .int .i64 6, .int .i64 7, .int .i64 8, .int .i64 9, .int .i64 10, .int .i64 11, .int .i64 12, .int .i64 13, .int .i64 14, .int .i64 6, .int .i64 6, .int .i64 7, .int .i64 8] 3)).cell? ⟨w.heap.size, q, none⟩ = some (.int .i64 K) := by
  have hq : q = 0 ∨ q = 1 ∨ q = 2 ∨ q = 3 ∨ q = 4 ∨ q = 5 ∨ q = 6 ∨ q = 7 ∨ q = 8 ∨ q = 9 ∨ q = 10 ∨ q = 11 ∨ q = 12 ∨ q = 13 ∨ q = 14 ∨ q = 15 ∨ q = 16 ∨ q = 17 ∨ q = 18 := by omega
  rcases hq with rfl | rfl | rfl | rfl | rfl | rfl | rfl | rfl | rfl | rfl | rfl | rfl | rfl | rfl | rfl | rfl | rfl | rfl | rfl <;> exact ⟨_, by decide, Blk.cell (Blk.new _ _ _) rfl⟩
theorem needs_at (w : World) (k g3 g4 : Nat) (hk : 1 ≤ k ∧ k ≤ 14) (h3 : g3 < 3) (h4 : g4 < 4) : ∃ m : Nat, need k m ∧ (w.alloc (.cells #[.int .i64 0, .int .i64 0, .int .i64 0, .int .i64 0, .int .i64 1, .int .i64 1, .int .i64 2, .int .i64 3, .int .i64 2, .int .i64 2, .int .i64 1, .int .i64 1, .int .i64 2, .int .i64 g4, .int .i64 g3] 3)).cell? ⟨w.heap.size, k, none⟩ = some (.int .i64 m) := by
  have hq : k = 1 ∨ k = 2 ∨ k = 3 ∨ k = 4 ∨ k = 5 ∨ k = 6 ∨ k = 7 ∨ k = 8 ∨ k = 9 ∨ k = 10 ∨ k = 11 ∨ k = 12 ∨ k = 13 ∨ k = 14 := by omega
  unfold need
  rcases hq with rfl | rfl | rfl | rfl | rfl | rfl | rfl | rfl | rfl | rfl | rfl | rfl | rfl | rfl
  · exact ⟨0, by omega, Blk.cell (Blk.new _ _ _) rfl⟩
  · exact ⟨0, by omega, Blk.cell (Blk.new _ _ _) rfl⟩
  · exact ⟨0, by omega, Blk.cell (Blk.new _ _ _) rfl⟩
  · exact ⟨1, by omega, Blk.cell (Blk.new _ _ _) rfl⟩
  · exact ⟨1, by omega, Blk.cell (Blk.new _ _ _) rfl⟩
  · exact ⟨2, by omega, Blk.cell (Blk.new _ _ _) rfl⟩
  · exact ⟨3, by omega, Blk.cell (Blk.new _ _ _) rfl⟩
  · exact ⟨2, by omega, Blk.cell (Blk.new _ _ _) rfl⟩
  · exact ⟨2, by omega, Blk.cell (Blk.new _ _ _) rfl⟩
  · exact ⟨1, by omega, Blk.cell (Blk.new _ _ _) rfl⟩
  · exact ⟨1, by omega, Blk.cell (Blk.new _ _ _) rfl⟩
  · exact ⟨2, by omega, Blk.cell (Blk.new _ _ _) rfl⟩
  · exact ⟨g4, by omega, Blk.cell (Blk.new _ _ _) rfl⟩
  · exact ⟨g3, by omega, Blk.cell (Blk.new _ _ _) rfl⟩
theorem signs_at (w : World) (q : Nat) (h : q < 14) : ∃ sg : ByteArray, sg ∈ signs14 ∧ (w.alloc (.cells #[.string ⟨#[43]⟩, .string ⟨#[45]⟩, .string ⟨#[42]⟩, .string ⟨#[47]⟩, .string ⟨#[109, 111, 100]⟩, .string ⟨#[60]⟩, .string ⟨#[60, 61]⟩, .string ⟨#[62]⟩, .string ⟨#[62, 61]⟩, .string ⟨#[61]⟩, .string ⟨#[60, 62]⟩, .string ⟨#[97, 110, 100]⟩, .string ⟨#[111, 114]⟩, .string ⟨#[120, 111, 114]⟩] 9)).cell? ⟨w.heap.size, q, none⟩ = some (.string sg) ∧ (#[.string ⟨#[43]⟩, .string ⟨#[45]⟩, .string ⟨#[42]⟩, .string ⟨#[47]⟩, .string ⟨#[109, 111, 100]⟩, .string ⟨#[60]⟩, .string ⟨#[60, 61]⟩, .string ⟨#[62]⟩, .string ⟨#[62, 61]⟩, .string ⟨#[61]⟩, .string ⟨#[60, 62]⟩, .string ⟨#[97, 110, 100]⟩, .string ⟨#[111, 114]⟩, .string ⟨#[120, 111, 114]⟩] : Array Value)[q]? = some (.string sg) ∧ ([.string ⟨#[43]⟩, .string ⟨#[45]⟩, .string ⟨#[42]⟩, .string ⟨#[47]⟩, .string ⟨#[109, 111, 100]⟩, .string ⟨#[60]⟩, .string ⟨#[60, 61]⟩, .string ⟨#[62]⟩, .string ⟨#[62, 61]⟩, .string ⟨#[61]⟩, .string ⟨#[60, 62]⟩, .string ⟨#[97, 110, 100]⟩, .string ⟨#[111, 114]⟩, .string ⟨#[120, 111, 114]⟩] : List Value)[q]? = some (.string sg) := by
  have hq : q = 0 ∨ q = 1 ∨ q = 2 ∨ q = 3 ∨ q = 4 ∨ q = 5 ∨ q = 6 ∨ q = 7 ∨ q = 8 ∨ q = 9 ∨ q = 10 ∨ q = 11 ∨ q = 12 ∨ q = 13 := by omega
  rcases hq with rfl | rfl | rfl | rfl | rfl | rfl | rfl | rfl | rfl | rfl | rfl | rfl | rfl | rfl <;> exact ⟨_, by simp [signs14]; done, Blk.cell (Blk.new _ _ _) rfl, rfl, rfl⟩
theorem and_4095 (i : Int) : ∃ n : Nat, n < 4096 ∧ bits .and .i64 i 4095 = (n : Int) := by
  unfold bits
  simp only
  have h : (BitVec.ofInt IntKind.i64.bits i &&& BitVec.ofInt IntKind.i64.bits 4095).toNat < 4096 := by
    rw [BitVec.toNat_and]
    exact Nat.lt_succ_of_le Nat.and_le_right
  exact ⟨_, h, IntWalk.i64_in _ (by omega)⟩
theorem and_1 (i : Int) : bits .and .i64 i 1 = 0 ∨ bits .and .i64 i 1 = 1 := by
  unfold bits
  simp only
  have h : (BitVec.ofInt IntKind.i64.bits i &&& BitVec.ofInt IntKind.i64.bits 1).toNat < 2 := by
    rw [BitVec.toNat_and]
    exact Nat.lt_succ_of_le Nat.and_le_right
  rw [IntWalk.i64_in _ (by omega)]
  omega
/-- What Some keeps of its own: its argument, its answer, the expression that it makes. -/
def SoSt (w : World) (raw : Array Value) (d : Nat) (k a n : Int) (nm : ByteArray) (off : Bool) (es : List Ex) (v : Value) (wr : World) : Prop :=
  AppSt w (w.heap.size + 1) (w.heap.size + 3) (w.heap.size + 4) 45 d k a n nm off #[.int .i64 0, .int .i64 0, .int .i64 0, .string ⟨#[]⟩, .bool false, .slice none 0 0] es v wr ∧ Blk wr w.heap.size 45 raw
theorem SoSt.below {w wr w' : World} {raw : Array Value} {d : Nat} {k a n : Int} {nm : ByteArray} {off : Bool} {es : List Ex} {v : Value} (h : SoSt w raw d k a n nm off es v wr) (hb : Below wr.heap.size wr w') : SoSt w raw d k a n nm off es v w' :=
  ⟨⟨h.1.1.trans (hb.mono h.1.1.size), Nat.le_trans h.1.2.1 hb.size, h.1.2.2.1.below hb, h.1.2.2.2.1.below hb, h.1.2.2.2.2.keep (Above.of_below hb)⟩, h.2.below hb⟩
theorem AppSt.put {w wr : World} {R U base T d : Nat} {k a n : Int} {nm : ByteArray} {off : Bool} {zs : Array Value} {es : List Ex} {v : Value} (h : AppSt w R U base T d k a n nm off zs es v wr) (hw : w.heap.size ≤ U) (hRU : R ≠ U) (hU : U < base) {o : Nat} {x : Value}
    {k2 a2 n2 : Int} {nm2 : ByteArray} {off2 : Bool} (he : (#[.int .i64 k, .int .i64 a, .int .i64 n, .string nm, .bool off, v] : Array Value).setIfInBounds o x = #[.int .i64 k2, .int .i64 a2, .int .i64 n2, .string nm2, .bool off2, v]) :
    AppSt w R U base T d k2 a2 n2 nm2 off2 zs es v (wr.setCell ⟨U, o, none⟩ x) := by
  obtain ⟨hb, hz, hu, hr, ht⟩ := h
  exact ⟨hb.setCell hw _, by simpa using hz, he ▸ hu.set x, hr.other hRU, ht.keep (Above.setCell hU)⟩
theorem SoSt.kind {w wr : World} {raw : Array Value} {d : Nat} {k a n : Int} {nm : ByteArray} {off : Bool} {es : List Ex} {v : Value} (h : SoSt w raw d k a n nm off es v wr) (k2 : Int) :
    SoSt w raw d k2 a n nm off es v (wr.setCell ⟨w.heap.size + 3, 0, none⟩ (.int .i64 k2)) :=
  ⟨h.1.put (by omega) (by omega) (by omega) rfl, h.2.other (by omega)⟩
theorem SoSt.put {w wr : World} {raw : Array Value} {d : Nat} {k a n : Int} {nm : ByteArray} {off : Bool} {es : List Ex} {v : Value} (h : SoSt w raw d k a n nm off es v wr) {o : Nat} {x : Value}
    {k2 a2 n2 : Int} {nm2 : ByteArray} {off2 : Bool} (he : (#[.int .i64 k, .int .i64 a, .int .i64 n, .string nm, .bool off, v] : Array Value).setIfInBounds o x = #[.int .i64 k2, .int .i64 a2, .int .i64 n2, .string nm2, .bool off2, v]) :
    SoSt w raw d k2 a2 n2 nm2 off2 es v (wr.setCell ⟨w.heap.size + 3, o, none⟩ x) :=
  ⟨h.1.put (by omega) (by omega) (by omega) he, h.2.other (by omega)⟩
/-- The kids that Some has made. -/
def SomeKids (k : Int) (D j : Nat) (es : List Ex) : Prop :=
  es.length = j ∧ (∀ i (h : i < es.length), k = 14 ∨ k = 9 ∧ i = 0 → kindE es[i] = 1 ∨ kindE es[i] = 2) ∧ ∀ i (h : i < es.length), Good D es[i]
theorem some_pos {D k m : Nat} (h : D = 0 → (k : Int) ≤ 3) (hn : need k m) (hm : m ≠ 0) : D ≠ 0 := by
  intro h0
  have := h h0
  unfold need at hn
  omega
/-- What Some answers. -/
def SomeOut (w : World) (D : Nat) (x : Ending) (w' : World) : Prop := ∃ E, Good (D + 1) E ∧ TreeOut w (D + 1) E x w'
theorem Raw.shape {w : World} {B d : Nat} {c0 c1 c2 c3 c4 c5 : Value} (h : Raw w B d (.agg #[c0, c1, c2, c3, c4, c5])) :
    ∃ k a n nm off sp sl sc, c0 = .int .i64 k ∧ c1 = .int .i64 a ∧ c2 = .int .i64 n ∧ c3 = .string nm ∧ c4 = .bool off ∧ c5 = .slice sp sl sc := by
  have : ∃ k a n nm off sp sl sc, (Value.agg #[c0, c1, c2, c3, c4, c5]) = exVal k a n nm off (.slice sp sl sc) := by
    cases d with
    | zero => obtain ⟨k, a, n, nm, off, sp, sl, sc, hv, _⟩ := h; exact ⟨k, a, n, nm, off, sp, sl, sc, hv⟩
    | succ d => obtain ⟨k, a, n, nm, off, sp, sl, sc, hv, _⟩ := h; exact ⟨k, a, n, nm, off, sp, sl, sc, hv⟩
  obtain ⟨k, a, n, nm, off, sp, sl, sc, hv⟩ := this
  injection hv with hv
  exact ⟨k, a, n, nm, off, sp, sl, sc, by simpa using hv⟩
theorem Raw.kid {w : World} {B d : Nat} {k a n : Int} {nm : ByteArray} {off : Bool} {sp : Option Addr} {sl sc : Nat} (h : Raw w B (d + 1) (exVal k a n nm off (.slice sp sl sc))) {i : Nat} (hi : i < sl) :
    ∃ b o c0 c1 c2 c3 c4 c5, sp = some ⟨b, o, none⟩ ∧ b < B ∧ Six w b (o + i * 6) c0 c1 c2 c3 c4 c5 ∧ Raw w B d (.agg #[c0, c1, c2, c3, c4, c5]) := by
  obtain ⟨k', a', n', nm', off', sp', sl', sc', hv, _, _, hk⟩ := h
  injection hv with hv
  obtain ⟨_, _, _, _, _, h1, h2, h3⟩ : k = k' ∧ a = a' ∧ n = n' ∧ nm = nm' ∧ off = off' ∧ sp = sp' ∧ sl = sl' ∧ sc = sc' := by simpa using hv
  subst h1 h2 h3
  exact hk i hi
theorem raw_new {w : World} {B d : Nat} {k a n : Int} {off : Bool} (hn : -9223372036854775808 ≤ n ∧ n ≤ 9223372036854775807) : Raw w B d (exVal k a n ⟨#[]⟩ off (.slice none 0 0)) := by
  cases d with
  | zero => exact ⟨k, a, n, _, off, none, 0, 0, rfl, hn, by omega⟩
  | succ d => exact ⟨k, a, n, _, off, none, 0, 0, rfl, hn, by omega, fun i hi => absurd hi (Nat.not_lt_zero _)⟩
theorem wrap64_rng (n : Int) : -9223372036854775808 ≤ wrap64 n ∧ wrap64 n ≤ 9223372036854775807 := by unfold wrap64; omega
theorem far6_below {wr V1 : World} (h : Below wr.heap.size wr V1) {c0 c1 c2 c3 c4 c5 : Value} : Below wr.heap.size wr (((((((V1.setCell ⟨wr.heap.size, 0, none⟩ c0).setCell ⟨wr.heap.size, 1, none⟩ c1).setCell ⟨wr.heap.size, 2, none⟩ c2).setCell ⟨wr.heap.size, 3, none⟩ c3).setCell ⟨wr.heap.size, 4, none⟩ c4).setCell ⟨wr.heap.size, 5, none⟩ c5)) :=
  (((((h.setCell (Nat.le_refl _) _).setCell (Nat.le_refl _) _).setCell (Nat.le_refl _) _).setCell (Nat.le_refl _) _).setCell (Nat.le_refl _) _).setCell (Nat.le_refl _) _
theorem Raw.num {w : World} {B d : Nat} {k a n : Int} {nm : ByteArray} {off : Bool} {sp : Option Addr} {sl sc : Nat} (h : Raw w B d (exVal k a n nm off (.slice sp sl sc))) : -9223372036854775808 ≤ n ∧ n ≤ 9223372036854775807 := by
  cases d with
  | zero =>
    obtain ⟨k', a', n', nm', off', sp', sl', sc', hv, hn, _⟩ := h
    injection hv with hv
    obtain ⟨_, _, h1, _⟩ : k = k' ∧ a = a' ∧ n = n' ∧ nm = nm' ∧ off = off' ∧ sp = sp' ∧ sl = sl' ∧ sc = sc' := by simpa using hv
    exact h1 ▸ hn
  | succ d =>
    obtain ⟨k', a', n', nm', off', sp', sl', sc', hv, hn, _⟩ := h
    injection hv with hv
    obtain ⟨_, _, h1, _⟩ : k = k' ∧ a = a' ∧ n = n' ∧ nm = nm' ∧ off = off' ∧ sp = sp' ∧ sl = sl' ∧ sc = sc' := by simpa using hv
    exact h1 ▸ hn
theorem Below.far6 {wr V1 : World} (h : Below wr.heap.size wr V1) {c0 c1 c2 c3 c4 c5 : Value} : Below wr.heap.size wr (set6 V1 wr.heap.size 0 c0 c1 c2 c3 c4 c5) := far6_below h
theorem rep_set6 {g d : Nat} {w1 w5 : World} {E : Ex} {v c0 c1 c2 c3 c4 c5 : Value} (hg : g < w1.heap.size) (h : RepP w5 (fun b => w1.heap.size ≤ b ∧ b < w5.heap.size) d E v) (hwr : g ≤ w1.heap.size) :
    RepP (set6 w5 g 0 c0 c1 c2 c3 c4 c5) (fun b => g ≤ b ∧ b < (set6 w5 g 0 c0 c1 c2 c3 c4 c5).heap.size) d E v := by
  have E2 : Exc g w5 (set6 w5 g 0 c0 c1 c2 c3 c4 c5) := (Exc.refl g w5).set6 _ _ _ _ _ _
  exact h.keep (fun b hb => ⟨by omega, Nat.lt_of_lt_of_le hb.2 E2.1⟩) (fun b hb => E2.2 b hb.2 (by omega))
theorem good_int {D : Nat} {n : Int} {A : Nat} (hn : -9223372036854775808 ≤ n ∧ n ≤ 9223372036854775807) (hA : A < 4096) : Good (D + 1) (.mk 1 A n ⟨#[]⟩ false []) :=
  ⟨⟨hn, ⟨by omega, by omega⟩, fun h => absurd h (by decide), fun h => absurd rfl h, fun h => absurd h (by decide), fun h => absurd h (by decide), fun _ _ _ => rfl, fun _ => rfl⟩, (by unfold need; simp), fun i h => (by cases h), fun i h => (by cases h)⟩
theorem good_bool {D : Nat} {n : Int} {A : Nat} (hn : n = 0 ∨ n = 1) (hA : A < 4096) : Good (D + 1) (.mk 2 A n ⟨#[]⟩ false []) :=
  ⟨⟨⟨by omega, by omega⟩, ⟨by omega, by omega⟩, fun _ => hn, fun _ h => absurd rfl h, fun h => absurd h (by decide), fun h => absurd h (by decide), fun _ _ _ => rfl, fun _ => rfl⟩, (by unfold need; simp), fun i h => (by cases h), fun i h => (by cases h)⟩
theorem rep_nil {D : Nat} {w : World} {P : Nat → Prop} {k a n : Int} {nm : ByteArray} {off : Bool} : RepP w P (D + 1) (.mk k a n nm off []) (exVal k a n nm off (.slice none 0 0)) := ⟨_, rfl, Or.inl ⟨rfl, rfl⟩⟩
theorem SomeKids.snoc {k : Int} {D j : Nat} {es : List Ex} {E : Ex} (h : SomeKids k D j es) (hk : k = 14 ∨ k = 9 ∧ j = 0 → kindE E = 1 ∨ kindE E = 2) (hg : Good D E) : SomeKids k D (j + 1) (es ++ [E]) := by
  obtain ⟨h1, h2, h3⟩ := h
  refine ⟨by rw [List.length_append, h1]; rfl, fun i hi hc => ?_, fun i hi => ?_⟩
  · by_cases hl : i < es.length
    · rw [List.getElem_append_left hl]; exact h2 i hl hc
    · have hi2 : i = es.length := by rw [List.length_append, List.length_singleton] at hi; omega
      subst hi2
      rw [List.getElem_append_right (Nat.le_refl _)]
      simp only [Nat.sub_self, List.getElem_cons_zero]
      exact hk (by rw [h1] at hc; exact hc)
  · by_cases hl : i < es.length
    · rw [List.getElem_append_left hl]; exact h3 i hl
    · have hi2 : i = es.length := by rw [List.length_append, List.length_singleton] at hi; omega
      subst hi2
      rw [List.getElem_append_right (Nat.le_refl _)]
      simp only [Nat.sub_self, List.getElem_cons_zero]
      exact hg
theorem SoSt.append {w wr w2 w3 : World} {raw : Array Value} {d m : Nat} {k a n : Int} {nm : ByteArray} {off : Bool} {es : List Ex} {v v' : Value} {e : Ex} {c0 c1 c2 c3 c4 c5 : Value} {xs : List Value} {X : Obj} (hm : es.length = m)
    (h : SoSt w raw d k a n nm off es v wr) (h2 : Below wr.heap.size wr w2) (hr : RepP w2 (fun b => wr.heap.size ≤ b ∧ b < w2.heap.size) d e (.agg #[c0, c1, c2, c3, c4, c5]))
    (hx : (w2.alloc X).ownsRow (w.heap.size + 4) 45 6 v m xs) (hk : ∀ i (h : i < es.length), ∃ c0 c1 c2 c3 c4 c5, Sub6 xs (i * 6) c0 c1 c2 c3 c4 c5 ∧ RepP (w2.alloc X) (fun b => w.heap.size + 4 ≤ b ∧ b < (w2.alloc X).heap.size ∧ v.ownBlock ≠ some b) d es[i] (.agg #[c0, c1, c2, c3, c4, c5]))
    (hg : Grown (w.heap.size + 4) 45 (m + 1) v (xs ++ [c0, c1, c2, c3, c4, c5]) (w2.alloc X) v' w3) :
    SoSt w raw d k a n nm off (es ++ [e]) v' (w3.setCell ⟨w.heap.size + 3, 5, none⟩ v') := by
  refine ⟨AppSt.step hm h.1 (by omega) (by omega) (by omega) (by omega) (by omega) (Below.refl _ _) h2 hr hx hk hg, ?_⟩
  have hb : v.ownBlock ≠ some w.heap.size := h.1.2.2.2.2.own_ge (by omega)
  exact (((h.2.below h2).alloc X).grown hg.2.1 hb).other (by omega)
theorem info45 : (Tryd.prog.info? 45).map (fun i => (i.zero, i.size, i.bytes)) = some (some (.agg #[.int .i64 0, .int .i64 0, .int .i64 0, .string ⟨#[]⟩, .bool false, .slice none 0 0]), 6, 72) := by kernel_rfl
theorem Blk.drew {w : World} {b T : Nat} {cs : Array Value} (h : Blk w b T cs) : Blk w.drew b T cs := h
theorem Blk.to {w : World} {b T : Nat} {cs ds : Array Value} (h : Blk w b T cs) (e : cs = ds) : Blk w b T ds := e ▸ h
theorem over6 (d0 d1 d2 d3 d4 d5 c0 c1 c2 c3 c4 c5 : Value) : ((((((#[d0, d1, d2, d3, d4, d5] : Array Value).setIfInBounds 0 c0).setIfInBounds 1 c1).setIfInBounds 2 c2).setIfInBounds 3 c3).setIfInBounds 4 c4).setIfInBounds 5 c5 = #[c0, c1, c2, c3, c4, c5] := by simp
theorem blk_chain {wc : World} {g T : Nat} {d0 d1 d2 d3 d4 d5 : Value} (hv : Blk wc g T #[d0, d1, d2, d3, d4, d5]) (c0 c1 c2 c3 c4 c5 : Value) :
    Blk (((((((wc.setCell ⟨g, 0, none⟩ c0).setCell ⟨g, 1, none⟩ c1).setCell ⟨g, 2, none⟩ c2).setCell ⟨g, 3, none⟩ c3).setCell ⟨g, 4, none⟩ c4).setCell ⟨g, 5, none⟩ c5).drew) g T #[c0, c1, c2, c3, c4, c5] :=
  ((((((hv.set (o := 0) c0).set (o := 1) c1).set (o := 2) c2).set (o := 3) c3).set (o := 4) c4).set (o := 5) c5).drew.to (over6 ..)
theorem some_done {D m : Nat} {k A N : Int} {nm : ByteArray} {off : Bool} {es : List Ex} {w w' : World} {x : Ending} (ho : Own1 k A N nm off) (hn : need k m) (hk : SomeKids k D m es) (h : TreeOut w (D + 1) (.mk k A N nm off es) x w') : SomeOut w D x w' :=
  ⟨.mk k A N nm off es, ⟨ho, by rw [hk.1]; exact hn, hk.2.1, hk.2.2⟩, h⟩
theorem some_start {w W2 : World} {d : Nat} {K A : Int} {raw : Array Value} (hz : W2.heap.size = w.heap.size + 3) (hb : Below w.heap.size w W2) (hX : Blk W2 w.heap.size 45 raw)
    (hR : Blk W2 (w.heap.size + 1) 45 #[.int .i64 0, .int .i64 0, .int .i64 0, .string ⟨#[]⟩, .bool false, .slice none 0 0]) :
    SoSt w raw d K A 0 ⟨#[]⟩ false [] (.slice none 0 0) (W2.alloc (.cells #[.int .i64 K, .int .i64 A, .int .i64 0, .string ⟨#[]⟩, .bool false, .slice none 0 0] 45)).drew :=
  ⟨⟨(hb.alloc (by omega) _).drew, by simp; omega, (by have := Blk.new W2 45 #[.int .i64 K, .int .i64 A, .int .i64 0, .string ⟨#[]⟩, .bool false, .slice none 0 0]; rw [hz] at this; exact this), hR.alloc _, TreeRow.nil _ _ _ _⟩, hX.alloc _⟩
theorem mod_still (n m q : Int) (h : n % m = q) (hm : 0 < m) (hm2 : m ≤ 1000) (w : World) : Calls Tryd.prog 33 #[.int .i64 n, .int .i64 m] w fun e w' => e = .returned (.int .i64 q) ∧ w' = w :=
  (mod_any n m hm hm2 w).mono fun _ _ ⟨he, hw⟩ => ⟨h ▸ he, hw.symm⟩
theorem const_end2 {w wr wd : World} {raw : Array Value} {d : Nat} {k a n : Int} {nm : ByteArray} {off : Bool} {es : List Ex} {v : Value} {d0 d1 d2 d3 d4 d5 c0 c1 c2 c3 c4 c5 : Value} (hv : Blk wd wr.heap.size 45 #[d0, d1, d2, d3, d4, d5]) (hs : SoSt w raw d k a n nm off es v wr) (hb : Below wr.heap.size wr wd) :
    Blk ((((((wd.setCell ⟨wr.heap.size, 0, none⟩ c0).setCell ⟨wr.heap.size, 1, none⟩ c1).setCell ⟨wr.heap.size, 2, none⟩ c2).setCell ⟨wr.heap.size, 3, none⟩ c3).setCell ⟨wr.heap.size, 4, none⟩ c4).setCell ⟨wr.heap.size, 5, none⟩ c5) wr.heap.size 45 #[c0, c1, c2, c3, c4, c5] ∧ SoSt w raw d k a n nm off es v ((((((wd.setCell ⟨wr.heap.size, 0, none⟩ c0).setCell ⟨wr.heap.size, 1, none⟩ c1).setCell ⟨wr.heap.size, 2, none⟩ c2).setCell ⟨wr.heap.size, 3, none⟩ c3).setCell ⟨wr.heap.size, 4, none⟩ c4).setCell ⟨wr.heap.size, 5, none⟩ c5) ∧ Below wr.heap.size wr ((((((wd.setCell ⟨wr.heap.size, 0, none⟩ c0).setCell ⟨wr.heap.size, 1, none⟩ c1).setCell ⟨wr.heap.size, 2, none⟩ c2).setCell ⟨wr.heap.size, 3, none⟩ c3).setCell ⟨wr.heap.size, 4, none⟩ c4).setCell ⟨wr.heap.size, 5, none⟩ c5) :=
  ⟨((((((hv.set (o := 0) c0).set (o := 1) c1).set (o := 2) c2).set (o := 3) c3).set (o := 4) c4).set (o := 5) c5).to (over6 ..), hs.below (far6_below hb), far6_below hb⟩
/-- What stands behind the first statements of Some. -/
def tailN : Nat → Code → Code
  | 0, c => c
  | n + 1, .seq _ b => tailN n b
  | _ + 1, c => c
set_option maxHeartbeats 40000000 in
set_option maxRecDepth 100000 in
theorem some_tail (rk ra rn : Int) (rnm : ByteArray) (roff : Bool) (rsp : Option Addr) (rsl rsc : Nat) (w wc : World) (D B : Nat) (hD : D ≤ 5) (hB : B ≤ w.heap.size) (hraw : Raw w B D (exVal rk ra rn rnm roff (.slice rsp rsl rsc)))
    (ih : ∀ D1, D = D1 + 1 → ∀ v w1, Raw w1 B D1 v → B ≤ w1.heap.size → Calls Tryd.prog 20 #[v, .int .i64 D] w1 (SomeOut w1 D1)) (hrn : -9223372036854775808 ≤ rn ∧ rn ≤ 9223372036854775807)
    (k m A : Nat) (hk1 : 1 ≤ k ∧ k ≤ 14) (hD3 : D = 0 → (k : Int) ≤ 3) (hnd : need k m) (hA : A < 4096) (nm9 : ByteArray) (N : Int) (nm : ByteArray) (off : Bool) (hown : Own1 k A N nm off)
    (hst : SoSt w #[.int .i64 rk, .int .i64 ra, .int .i64 rn, .string rnm, .bool roff, .slice rsp rsl rsc] D k A N nm off [] (.slice none 0 0) wc) (u11 u12 u13 u14 u15 u16 u17 u18 u19 u20 u21 u22 u23 u24 u25 u26 u27 u28 u29 u30 u31 u32 u33 u34 u35 u36 u37 u38 u39 u40 u41 u42 u43 u44 u45 u46 u47 u48 u50 u51 u52 u53 u54 u55 u56 u57 u58 u59 u60 u61 u62 u63 u64 u65 u66 u67 u68 u69 u70 u71 u72 u73 u74 u75 u76 u77 u78 u79 u80 u81 u82 u83 u86 u87 u88 u89 u90 u91 u92 u93 u94 u95 u96 u97 u98 u99 u100 u101 u102 u103 u104 u105 u106 u107 u108 u109 u110 u111 u112 u113 u114 u115 u116 u117 u118 u119 u120 u121 u122 u123 u124 u125 u126 u127 u128 u129 u130 u131 u132 u133 u134 u135 u136 u137 u138 u139 u140 u141 u142 u143 u144 u145 u146 u147 u148 u149 u150 u151 u152 u153 u154 u155 u156 : Value) :
    Code.wp Tryd.prog (tailN 7 (Tryd.f20.body.getD .skip)) (bodyPost Tryd.prog Tryd.f20 (SomeOut w D)) ⟨#[exVal rk ra rn rnm roff (.slice rsp rsl rsc), .int .i64 ((D : Int) + 1), .pointer (some ⟨w.heap.size, 0, none⟩), undef, .pointer (some ⟨w.heap.size + 1, 0, none⟩), .slice (some ⟨w.heap.size + 1 + 1, 0, none⟩) 19 19, .pointer (some ⟨w.heap.size + 3, 0, none⟩), .int .i64 m, .string nm9, undef, undef, u11, u12, u13, u14, u15, u16, u17, u18, u19, u20, u21, u22, u23, u24, u25, u26, u27, u28, u29, u30, u31, u32, u33, u34, u35, u36, u37, u38, u39, u40, u41, u42, u43, u44, u45, u46, u47, u48, .int .i64 k, u50, u51, u52, u53, u54, u55, u56, u57, u58, u59, u60, u61, u62, u63, u64, u65, u66, u67, u68, u69, u70, u71, u72, u73, u74, u75, u76, u77, u78, u79, u80, u81, u82, u83, undef, undef, u86, u87, u88, u89, u90, u91, u92, u93, u94, u95, u96, u97, u98, u99, u100, u101, u102, u103, u104, u105, u106, u107, u108, u109, u110, u111, u112, u113, u114, u115, u116, u117, u118, u119, u120, u121, u122, u123, u124, u125, u126, u127, u128, u129, u130, u131, u132, u133, u134, u135, u136, u137, u138, u139, u140, u141, u142, u143, u144, u145, u146, u147, u148, u149, u150, u151, u152, u153, u154, u155, u156], []⟩ wc := by
  have HND := Lib.hid hnd
  have HRW := Lib.hid hraw
  have IH := Lib.hid ih
  clear hraw ih hnd
  obtain ⟨i0, hi, hz0, hz1, hz2⟩ := info_parts info45
  generalize hQ0 : bodyPost Tryd.prog Tryd.f20 (SomeOut w D) = Q0
  dsimp only [Tryd.f20, Option.getD, tailN]
  subst hQ0
  have HST := Lib.hid hst
  have HOW := Lib.hid hown
  have hm3 : m ≤ 3 := need_le HND.out
  have hm0 : m ≠ 0 → D ≠ 0 := some_pos hD3 HND.out
  clear hst hown
  go_wp2_with fail
  go_loopw [85] (fun t wr => ∃ (j : Nat) (es : List Ex) (sp : Option Addr) (sl sc : Nat), t = .int .i64 j ∧ j ≤ m ∧ SomeKids k D j es ∧ SoSt w #[.int .i64 rk, .int .i64 ra, .int .i64 rn, .string rnm, .bool roff, .slice rsp rsl rsc] D k A N nm off es (.slice sp sl sc) wr) (fun t _ => m - (intOf t).toNat)
  case atStart => exact ⟨0, [], none, 0, 0, rfl, Nat.zero_le _, ⟨rfl, fun i h => (by cases h), fun i h => (by cases h)⟩, HST.out⟩
  case round =>
    obtain ⟨j, es, sp, sl, sc, rfl, hj, hes, hst⟩ := hrel
    have HS := Lib.hid hst
    have HES := Lib.hid hes
    clear hes
    by_cases hl1 : j < m
    · obtain ⟨x0, x1, x2, x3, x4, x5⟩ := hst.2.six
      clear hst
      go_upto_region 25 with fail
      generalize hV : wr.alloc _ = V1
      have HV := Lib.hid (show Blk V1 wr.heap.size 45 _ by rw [← hV]; exact Blk.new _ _ _)
      have HBV := Lib.hid (show Below wr.heap.size wr V1 by rw [← hV]; exact (Below.refl _ _).alloc (Nat.le_refl _) _)
      clear hV x0 x1 x2 x3 x4 x5
      have HS1 := Lib.hid (HS.out.below HBV.out)
      obtain ⟨x0, x1, x2, x3, x4, x5⟩ := HS1.out.2.six
      obtain ⟨D1, hD1⟩ : ∃ D1, D = D1 + 1 := ⟨D - 1, by have := hm0 (by omega); omega⟩
      have HRAW := Lib.hid (show Raw w B (D1 + 1) (exVal rk ra rn rnm roff (.slice rsp rsl rsc)) from hD1 ▸ HRW.out)
      have HD1 := Lib.hid hD1
      clear hD1
      go_upto_if 110 with fail
      go_cut [] (fun wx => ∃ (k1 a1 n1 : Int) (nm1 : ByteArray) (off1 : Bool) (sp1 : Option Addr) (sl1 sc1 : Nat), Blk wx wr.heap.size 45 #[.int .i64 k1, .int .i64 a1, .int .i64 n1, .string nm1, .bool off1, .slice sp1 sl1 sc1] ∧ Raw w B D1 (exVal k1 a1 n1 nm1 off1 (.slice sp1 sl1 sc1)) ∧ SoSt w #[.int .i64 rk, .int .i64 ra, .int .i64 rn, .string rnm, .bool roff, .slice rsp rsl rsc] D k A N nm off es (.slice sp sl sc) wx ∧ Below wr.heap.size wr wx)
      case first =>
        by_cases hjr : j < rsl
        · obtain ⟨b, o, c0, c1, c2, c3, c4, c5, hsp, hbB, h6, hrk⟩ := HRAW.out.kid hjr
          subst hsp
          obtain ⟨k1, a1, n1, nm1, off1, sp1, sl1, sc1, rfl, rfl, rfl, rfl, rfl, rfl⟩ := hrk.shape
          obtain ⟨e0, e1, e2, e3, e4, e5⟩ := six_parts (h6.below (HS1.out.1.1.mono hB) hbB)
          obtain ⟨v0, v1, v2, v3, v4, v5⟩ := HV.out.six
          have f0 := HV.out.free 0
          have f1 := HV.out.free 1
          have f2 := HV.out.free 2
          have f3 := HV.out.free 3
          have f4 := HV.out.free 4
          have f5 := HV.out.free 5
          have HRK := Lib.hid hrk
          clear hrk h6
          go_wp2_with fail
          go_meet
          exact ⟨k1, a1, n1, nm1, off1, sp1, sl1, sc1, HV.out.set6 (i := 0) _ _ _ _ _ _, HRK.out, HS.out.below (far6_below HBV.out), far6_below HBV.out⟩
        · have hrk : decide (j < rsl) = false := by simp; omega
          clear HRAW
          go_wp2_with fail
          go_meet
          exact ⟨_, _, _, _, _, _, _, _, HV.out, raw_new (wrap64_rng _), HS1.out, HBV.out⟩
      case rest =>
        obtain ⟨k1, a1, n1, nm1, off1, sp1, sl1, sc1, hv, hrk, hs2, hb2⟩ := hcut
        clear x0 x1 x2 x3 x4 x5 HV HBV HS1 HRAW
        have HV := Lib.hid hv; have HRK := Lib.hid hrk; have HS2 := Lib.hid hs2; have HB2 := Lib.hid hb2
        have u0 : wc.cell? ⟨w.heap.size + 3, 0, none⟩ = some (.int .i64 k) := hs2.1.2.2.1.cell rfl
        clear hv hrk hs2 hb2
        go_upto_region 27 with fail
        go_cut [127] (fun s wx => s = .bool (decide (k = 14 ∨ k = 9 ∧ j = 0)) ∧ wx = wc)
        case first =>
          by_cases h14 : k = 14
          · subst h14
            go_wp2_with fail
            go_meet
            exact ⟨by simp, rfl⟩
          · have b14 : ((k : Int) == 14) = false := by simp; omega
            by_cases h9 : k = 9
            · subst h9
              by_cases hj0 : j = 0
              · subst hj0
                go_wp2_with fail
                go_meet
                exact ⟨by simp, rfl⟩
              · have bj : ((j : Int) == 0) = false := by simp; omega
                have HJ0 := Lib.hid hj0
                clear hj0
                go_wp2_with fail
                go_meet
                exact ⟨by have := HJ0.out; simp [this], rfl⟩
            · have b9 : ((k : Int) == 9) = false := by simp; omega
              have H14 := Lib.hid h14; have H9 := Lib.hid h9
              clear h14 h9
              go_wp2_with fail
              go_meet
              exact ⟨by have h1 := H14.out; have h2 := H9.out; simp [h1, h2], rfl⟩
        case rest =>
          obtain ⟨rfl, rfl⟩ := hcut
          obtain ⟨v0, v1, v2, v3, v4, v5⟩ := HV.out.six
          have f0 := HV.out.free 0
          have f1 := HV.out.free 1
          have f2 := HV.out.free 2
          have f3 := HV.out.free 3
          have f4 := HV.out.free 4
          have f5 := HV.out.free 5
          clear u0
          go_upto_if 127 with fail
          go_cut [] (fun wx => ∃ (E : Ex) (k2 a2 n2 : Int) (nm2 : ByteArray) (off2 : Bool) (sp2 : Option Addr) (sl2 sc2 : Nat), (k = 14 ∨ k = 9 ∧ j = 0 → kindE E = 1 ∨ kindE E = 2) ∧ Good D E ∧ Blk wx wr.heap.size 45 #[.int .i64 k2, .int .i64 a2, .int .i64 n2, .string nm2, .bool off2, .slice sp2 sl2 sc2] ∧ RepP wx (fun b => wr.heap.size ≤ b ∧ b < wx.heap.size) D E (exVal k2 a2 n2 nm2 off2 (.slice sp2 sl2 sc2)) ∧ SoSt w #[.int .i64 rk, .int .i64 ra, .int .i64 rn, .string rnm, .bool roff, .slice rsp rsl rsc] D k A N nm off es (.slice sp sl sc) wx ∧ Below wr.heap.size wr wx)
          case first =>
            by_cases hC : k = 14 ∨ k = 9 ∧ j = 0
            · have hCd : decide (k = 14 ∨ k = 9 ∧ j = 0) = true := by simp; exact hC
              rw [hCd]
              clear hCd
              obtain ⟨g2, hg2⟩ : ∃ g : Nat, k1 % 2 = (g : Int) := ⟨(k1 % 2).toNat, by have := Int.emod_nonneg k1 (show (2 : Int) ≠ 0 by decide); omega⟩
              have hg2l : g2 = 0 ∨ g2 = 1 := by have := Int.emod_lt_of_pos k1 (show (0 : Int) < 2 by decide); omega
              have HG2 := Lib.hid hg2
              obtain ⟨A1, hA1, hA1e⟩ := and_4095 a1
              have hn1 := HRK.out.num
              have hb1 := and_1 n1
              have HC := Lib.hid hC
              clear hg2 hC
              have hw2 : IntKind.i64.wrap (1 + (g2 : Int)) = 1 + (g2 : Int) := IntWalk.i64_in _ (by omega)
              go_upto_region 28 with fail
              go_cut [] (fun wx => Blk wx wr.heap.size 45 #[.int .i64 (1 + (g2 : Int)), .int .i64 A1, .int .i64 n1, .string ⟨#[]⟩, .bool false, .slice none 0 0] ∧ SoSt w #[.int .i64 rk, .int .i64 ra, .int .i64 rn, .string rnm, .bool roff, .slice rsp rsl rsc] D k A N nm off es (.slice sp sl sc) wx ∧ Below wr.heap.size wr wx)
              case first =>
                go_still_tail 10, (by kernel_rfl)
                still_call (mod_still _ _ _ HG2.out (by decide) (by decide) _)
                repeat still_step
                refine wpStill_nil ?_
                change wpList _ _ _ _ _ wc.drew
                generalize hWD : wc.drew = Wd
                have HVD := Lib.hid (show Blk Wd wr.heap.size 45 _ from hWD ▸ HV.out.drew)
                have HBD := Lib.hid (show Below wr.heap.size wr Wd from hWD ▸ HB2.out.drew)
                clear hWD v0 v1 v2 v3 v4 v5 f0 f1 f2 f3 f4 f5
                obtain ⟨v0, v1, v2, v3, v4, v5⟩ := HVD.out.six
                have f0 := HVD.out.free 0
                have f1 := HVD.out.free 1
                have f2 := HVD.out.free 2
                have f3 := HVD.out.free 3
                have f4 := HVD.out.free 4
                have f5 := HVD.out.free 5
                go_wp2_with fail
                go_meet
                with_reducible exact const_end2 HVD.out HS.out HBD.out
              case rest =>
                obtain ⟨hv, hs3, hb3⟩ := hcut
                clear v0 v1 v2 v3 v4 v5 f0 f1 f2 f3 f4 f5
                have HV3 := Lib.hid hv; have HS3 := Lib.hid hs3; have HB3 := Lib.hid hb3
                obtain ⟨v0, v1, v2, v3, v4, v5⟩ := hv.six
                have f2 := hv.free 2
                clear hv hs3 hb3
                rcases hg2l with rfl | rfl
                · go_wp2_with fail
                  go_meet
                  exact ⟨.mk 1 A1 n1 ⟨#[]⟩ false [], 1, A1, n1, ⟨#[]⟩, false, none, 0, 0, fun _ => Or.inl rfl, HD1.out ▸ good_int hn1 hA1, HV3.out, HD1.out ▸ rep_nil, HS3.out, HB3.out⟩
                · go_wp2_with fail
                  go_meet
                  exact ⟨.mk 2 A1 (bits .and .i64 n1 1) ⟨#[]⟩ false [], 2, A1, bits .and .i64 n1 1, ⟨#[]⟩, false, none, 0, 0, fun _ => Or.inr rfl, HD1.out ▸ good_bool hb1 hA1, HV3.out.set _, HD1.out ▸ rep_nil, HS.out.below (HB3.out.setCell (Nat.le_refl _) _), HB3.out.setCell (Nat.le_refl _) _⟩
            · have hCd : decide (k = 14 ∨ k = 9 ∧ j = 0) = false := by simp; omega
              rw [hCd]
              clear hCd
              have hD1 := HD1.out
              have HRKW := Lib.hid (HRK.out.below (HS2.out.1.1.mono hB))
              have HBW := Lib.hid (show B ≤ wc.heap.size from Nat.le_trans hB HS2.out.1.1.size)
              have HC := Lib.hid hC
              clear hC hD1
              go_wp2_with fail
              refine (IH.out D1 HD1.out _ _ HRKW.out HBW.out).mono ?_
              rintro x w5 ⟨E, hgE, k2, a2, n2, nm2, off2, sp2, sl2, sc2, rfl, hr5, hb5⟩
              have HV5 := Lib.hid (HV.out.below hb5)
              clear v0 v1 v2 v3 v4 v5 f0 f1 f2 f3 f4 f5
              obtain ⟨v0, v1, v2, v3, v4, v5⟩ := HV5.out.six
              have f0 := HV5.out.free 0
              have f1 := HV5.out.free 1
              have f2 := HV5.out.free 2
              have f3 := HV5.out.free 3
              have f4 := HV5.out.free 4
              have f5 := HV5.out.free 5
              have HR5 := Lib.hid hr5; have HB5 := Lib.hid hb5; have HGE := Lib.hid hgE
              clear hr5 hb5 hgE
              go_wp2_with fail
              go_meet
              exact ⟨E, k2, a2, n2, nm2, off2, sp2, sl2, sc2, fun h => absurd h HC.out, HD1.out ▸ HGE.out, HV5.out.set6 (i := 0) _ _ _ _ _ _, HD1.out ▸ rep_set6 HV.out.lt HR5.out HB2.out.size, HS.out.below (Below.far6 (HB2.out.trans (HB5.out.mono HB2.out.size))), Below.far6 (HB2.out.trans (HB5.out.mono HB2.out.size))⟩
          case rest =>
            obtain ⟨E, k2, a2, n2, nm2, off2, sp2, sl2, sc2, hkE, hgE, hv, hr, hs3, hb3⟩ := hcut
            clear v0 v1 v2 v3 v4 v5 f0 f1 f2 f3 f4 f5 HV HRK HS2 HB2
            have HKE := Lib.hid hkE; have HGE := Lib.hid hgE; have HR := Lib.hid hr; have HS3 := Lib.hid hs3; have HB3 := Lib.hid hb3
            obtain ⟨v0, v1, v2, v3, v4, v5⟩ := hv.six
            obtain ⟨u0, u1, u2, u3, u4, u5⟩ := hs3.1.2.2.1.six
            have uf5 := hs3.1.2.2.1.free 5
            obtain ⟨xs, ho, hk⟩ := hs3.1.2.2.2.2.keep (Above.of_below ((Below.refl _ _).alloc (Nat.le_refl _) (.cells #[.int .i64 k2, .int .i64 a2, .int .i64 n2, .string nm2, .bool off2, .slice sp2 sl2 sc2] 45)))
            rw [HES.out.1] at ho
            have HO := Lib.hid ho; have HK := Lib.hid hk; have HBZ := Lib.hid hs3.1.2.1
            have u5a := alloc_cell hs3.1.2.2.1.lt u5
            have HUB := Lib.hid hs3.1.2.2.1
            have HOG := Lib.hid (show Value.ownBlock (.slice sp sl sc) ≠ some (w.heap.size + 3) from hs3.1.2.2.2.2.own_ge (by omega))
            clear hkE hgE hv hr hs3 hb3 ho hk
            go_wp2_with (at_builtin; refine wpList_append_tree rfl (.tmp 150) (.tmp 152) 43 rfl (w.heap.size + 4) 45 i0 _ 72 Tryd.underlying43 hi hz0 hz1 hz2 rfl (.slice sp sl sc) j xs rfl HO.out ⟨wc.heap.size, 0, none⟩ 1 _ _ _ _ _ _ rfl (new_cells _ _ _ _ rfl) (by simp [Value.oneCell']) (by omega) (by decide) (by have := HBZ.out; simp; omega) ?_; intro v' w3 hg; obtain ⟨av, cv, rfl⟩ := hg.2.2.2; have B3 := (HUB.out.alloc (.cells #[.int .i64 k2, .int .i64 a2, .int .i64 n2, .string nm2, .bool off2, .slice sp2 sl2 sc2] 45)).grown hg.2.1 HOG.out; have q5 := B3.cell (o := 5) (v := .slice sp sl sc) rfl; have qf := B3.free 5; have HFN := Lib.hid (SoSt.append HES.out.1 HS.out HB3.out HR.out HO.out HK.out hg); clear B3 hg)
            go_wp2_with fail
            go_roundw
            case rel => with_reducible exact ⟨j + 1, es ++ [E], _, _, _, by go_num, by omega, HES.out.snoc (fun h => HKE.out (by omega)) HGE.out, HFN.out⟩
            case measure => simp [intOf]; omega
    · have hje : j = m := by omega
      subst hje
      obtain ⟨u0, u1, u2, u3, u4, u5⟩ := hst.1.2.2.1.six
      obtain ⟨r0, r1, r2, r3, r4, r5⟩ := hst.1.2.2.2.1.six
      have f0 := hst.1.2.2.2.1.free 0
      have f1 := hst.1.2.2.2.1.free 1
      have f2 := hst.1.2.2.2.1.free 2
      have f3 := hst.1.2.2.2.1.free 3
      have f4 := hst.1.2.2.2.1.free 4
      have f5 := hst.1.2.2.2.1.free 5
      clear hst
      go_wp2_with fail
      refine bodyPost_ret (v := exVal k A N nm off (.slice sp sl sc)) ?_ rfl ?_
      · simp [results, Tryd.results20, go_sem, *]
      · exact some_done HOW.out HND.out HES.out (AppSt.finish HS.out.1 (by rw [HES.out.1]; omega) (by omega) (by omega))
set_option maxHeartbeats 40000000 in
set_option maxRecDepth 100000 in
theorem some_switch (rk ra rn : Int) (rnm : ByteArray) (roff : Bool) (rsp : Option Addr) (rsl rsc : Nat) (w wc : World) (D B : Nat) (hD : D ≤ 5) (hB : B ≤ w.heap.size) (hraw : Raw w B D (exVal rk ra rn rnm roff (.slice rsp rsl rsc)))
    (ih : ∀ D1, D = D1 + 1 → ∀ v w1, Raw w1 B D1 v → B ≤ w1.heap.size → Calls Tryd.prog 20 #[v, .int .i64 D] w1 (SomeOut w1 D1)) (hrn : -9223372036854775808 ≤ rn ∧ rn ≤ 9223372036854775807)
    (k m A : Nat) (hk1 : 1 ≤ k ∧ k ≤ 14) (hD3 : D = 0 → (k : Int) ≤ 3) (hnd : need k m) (hA : A < 4096) (nm9 : ByteArray) (hnm : nm9 ∈ names9) (hAe : bits .and .i64 ra 4095 = (A : Int)) (hst : SoSt w #[.int .i64 rk, .int .i64 ra, .int .i64 rn, .string rnm, .bool roff, .slice rsp rsl rsc] D k A 0 ⟨#[]⟩ false [] (.slice none 0 0) wc)
    (u11 u12 u13 u14 u15 u16 u17 u18 u19 u20 u21 u22 u23 u24 u25 u26 u27 u28 u29 u30 u31 u32 u33 u34 u35 u36 u37 u38 u39 u40 u41 u42 u43 u44 u45 u46 u47 u48 u51 u52 u53 u54 u56 u57 u58 u59 u60 u62 u63 u64 u65 u66 u67 u68 u69 u71 u72 u73 u74 u75 u76 u78 u79 u80 u81 u82 u83 u86 u87 u88 u89 u90 u91 u92 u93 u94 u95 u96 u97 u98 u99 u100 u101 u102 u103 u104 u105 u106 u107 u108 u109 u110 u111 u112 u113 u114 u115 u116 u117 u118 u119 u120 u121 u122 u123 u124 u125 u126 u127 u128 u129 u130 u131 u132 u133 u134 u135 u136 u137 u138 u139 u140 u141 u142 u143 u144 u145 u146 u147 u148 u149 u150 u151 u152 u153 u154 u155 u156 : Value) :
    Code.wp Tryd.prog (tailN 6 (Tryd.f20.body.getD .skip)) (bodyPost Tryd.prog Tryd.f20 (SomeOut w D)) ⟨#[exVal rk ra rn rnm roff (.slice rsp rsl rsc), .int .i64 ((D : Int) + 1), .pointer (some ⟨w.heap.size, 0, none⟩), undef, .pointer (some ⟨w.heap.size + 1, 0, none⟩), .slice (some ⟨w.heap.size + 1 + 1, 0, none⟩) 19 19, .pointer (some ⟨w.heap.size + 3, 0, none⟩), .int .i64 m, .string nm9, undef, undef, u11, u12, u13, u14, u15, u16, u17, u18, u19, u20, u21, u22, u23, u24, u25, u26, u27, u28, u29, u30, u31, u32, u33, u34, u35, u36, u37, u38, u39, u40, u41, u42, u43, u44, u45, u46, u47, u48, undef, undef, u51, u52, u53, u54, undef, u56, u57, u58, u59, u60, undef, u62, u63, u64, u65, u66, u67, u68, u69, undef, u71, u72, u73, u74, u75, u76, undef, u78, u79, u80, u81, u82, u83, undef, undef, u86, u87, u88, u89, u90, u91, u92, u93, u94, u95, u96, u97, u98, u99, u100, u101, u102, u103, u104, u105, u106, u107, u108, u109, u110, u111, u112, u113, u114, u115, u116, u117, u118, u119, u120, u121, u122, u123, u124, u125, u126, u127, u128, u129, u130, u131, u132, u133, u134, u135, u136, u137, u138, u139, u140, u141, u142, u143, u144, u145, u146, u147, u148, u149, u150, u151, u152, u153, u154, u155, u156], []⟩ wc := by
  have HND := Lib.hid hnd
  have HRW := Lib.hid hraw
  have IH := Lib.hid ih
  clear hraw ih hnd
  obtain ⟨i0, hi, hz0, hz1, hz2⟩ := info_parts info45
  have i3 : (0 : Int) ≤ (k : Int) := by omega
  have i4 : (k : Int) < 15 := by omega
  generalize hQ0 : bodyPost Tryd.prog Tryd.f20 (SomeOut w D) = Q0
  dsimp only [Tryd.f20, Option.getD, tailN]
  subst hQ0
  have HS := Lib.hid hst
  have HNM := Lib.hid hnm
  obtain ⟨x0, x1, x2, x3, x4, x5⟩ := hst.2.six
  obtain ⟨u0, u1, u2, u3, u4, u5⟩ := hst.1.2.2.1.six
  have uf2 := hst.1.2.2.1.free 2
  have uf3 := hst.1.2.2.1.free 3
  have uf4 := hst.1.2.2.1.free 4
  obtain ⟨g14, hg14⟩ : ∃ g : Nat, ra % 14 = (g : Int) := ⟨(ra % 14).toNat, by have := Int.emod_nonneg ra (show (14 : Int) ≠ 0 by decide); omega⟩
  have hg14l : g14 < 14 := by have := Int.emod_lt_of_pos ra (show (0 : Int) < 14 by decide); omega
  have HG14 := Lib.hid hg14
  clear hst hg14 hnm
  go_upto_block 0 with fail
  go_upto_block 0 with fail
  go_cut [] (fun wx => ∃ (N : Int) (nm : ByteArray) (off : Bool), Own1 k A N nm off ∧ SoSt w #[.int .i64 rk, .int .i64 ra, .int .i64 rn, .string rnm, .bool roff, .slice rsp rsl rsc] D k A N nm off [] (.slice none 0 0) wx)
  case first =>
    have hk14 : k = 1 ∨ k = 2 ∨ k = 3 ∨ k = 4 ∨ k = 5 ∨ k = 6 ∨ k = 7 ∨ k = 8 ∨ k = 9 ∨ k = 10 ∨ k = 11 ∨ k = 12 ∨ k = 13 ∨ k = 14 := by omega
    have hn2 := and_1 rn
    obtain ⟨sg, hsg, xs1, xs2, xs3⟩ := signs_at wc g14 hg14l
    have i5 : (0 : Int) ≤ (g14 : Int) := by omega
    have i6 : (g14 : Int) < 14 := by omega
    clear hk1 i3 i4
    rcases hk14 with rfl | rfl | rfl | rfl | rfl | rfl | rfl | rfl | rfl | rfl | rfl | rfl | rfl | rfl
    · clear xs1 xs2 xs3
      go_wp2_with fail
      go_meet
      exact ⟨rn, ⟨#[]⟩, false, ⟨⟨hrn.1, hrn.2⟩, ⟨by omega, by omega⟩, fun h => by first | omega | exact hn2 | exact absurd h (by decide), fun h h' => by first | rfl | exact absurd rfl h | exact absurd rfl h', fun h => by first | exact HNM.out | exact absurd h (by decide), fun h => by first | exact hsg | exact absurd h (by decide), fun h h' h'' => by first | rfl | exact absurd rfl h | exact absurd rfl h' | exact absurd h'' (by decide), fun h => by first | rfl | exact absurd rfl h⟩, HS.out.put rfl⟩
    · clear xs1 xs2 xs3
      go_wp2_with fail
      go_meet
      exact ⟨bits .and .i64 rn 1, ⟨#[]⟩, false, ⟨⟨by omega, by omega⟩, ⟨by omega, by omega⟩, fun h => by first | omega | exact hn2 | exact absurd h (by decide), fun h h' => by first | rfl | exact absurd rfl h | exact absurd rfl h', fun h => by first | exact HNM.out | exact absurd h (by decide), fun h => by first | exact hsg | exact absurd h (by decide), fun h h' h'' => by first | rfl | exact absurd rfl h | exact absurd rfl h' | exact absurd h'' (by decide), fun h => by first | rfl | exact absurd rfl h⟩, HS.out.put rfl⟩
    · clear xs1 xs2 xs3
      go_wp2_with fail
      go_meet
      exact ⟨0, nm9, false, ⟨⟨by decide, by decide⟩, ⟨by omega, by omega⟩, fun h => by first | omega | exact hn2 | exact absurd h (by decide), fun h h' => by first | rfl | exact absurd rfl h | exact absurd rfl h', fun h => by first | exact HNM.out | exact absurd h (by decide), fun h => by first | exact hsg | exact absurd h (by decide), fun h h' h'' => by first | rfl | exact absurd rfl h | exact absurd rfl h' | exact absurd h'' (by decide), fun h => by first | rfl | exact absurd rfl h⟩, HS.out.put rfl⟩
    · clear xs1 xs2 xs3
      go_wp2_with fail
      go_meet
      exact ⟨0, ⟨#[]⟩, false, ⟨⟨by decide, by decide⟩, ⟨by omega, by omega⟩, fun h => by first | omega | exact hn2 | exact absurd h (by decide), fun h h' => by first | rfl | exact absurd rfl h | exact absurd rfl h', fun h => by first | exact HNM.out | exact absurd h (by decide), fun h => by first | exact hsg | exact absurd h (by decide), fun h h' h'' => by first | rfl | exact absurd rfl h | exact absurd rfl h' | exact absurd h'' (by decide), fun h => by first | rfl | exact absurd rfl h⟩, HS.out⟩
    · clear xs1 xs2 xs3
      go_wp2_with fail
      go_meet
      exact ⟨0, ⟨#[]⟩, false, ⟨⟨by decide, by decide⟩, ⟨by omega, by omega⟩, fun h => by first | omega | exact hn2 | exact absurd h (by decide), fun h h' => by first | rfl | exact absurd rfl h | exact absurd rfl h', fun h => by first | exact HNM.out | exact absurd h (by decide), fun h => by first | exact hsg | exact absurd h (by decide), fun h h' h'' => by first | rfl | exact absurd rfl h | exact absurd rfl h' | exact absurd h'' (by decide), fun h => by first | rfl | exact absurd rfl h⟩, HS.out⟩
    · have x1a := alloc_cell HS.out.2.lt x1
      have u3a := alloc_cell HS.out.1.2.2.1.lt u3
      have uf3a : ∀ X, (wc.alloc X).frozen? ⟨w.heap.size + 3, 3, none⟩ = false := fun X => (HS.out.1.2.2.1.alloc X).free 3
      go_wp2_with (go_at_call 33; (with_reducible refine (mod_any _ _ (by decide) (by decide) _).mono ?_); rintro e w2 ⟨rfl, rfl⟩; rw [HG14.out])
      go_meet
      exact ⟨0, sg, false, ⟨⟨by decide, by decide⟩, ⟨by omega, by omega⟩, fun h => by first | omega | exact hn2 | exact absurd h (by decide), fun h h' => by first | rfl | exact absurd rfl h | exact absurd rfl h', fun h => by first | exact HNM.out | exact absurd h (by decide), fun h => by first | exact hsg | exact absurd h (by decide), fun h h' h'' => by first | rfl | exact absurd rfl h | exact absurd rfl h' | exact absurd h'' (by decide), fun h => by first | rfl | exact absurd rfl h⟩, (HS.out.below ((Below.refl _ _).alloc (Nat.le_refl _) _)).put rfl⟩
    · clear xs1 xs2 xs3
      go_wp2_with fail
      go_meet
      exact ⟨0, ⟨#[]⟩, false, ⟨⟨by decide, by decide⟩, ⟨by omega, by omega⟩, fun h => by first | omega | exact hn2 | exact absurd h (by decide), fun h h' => by first | rfl | exact absurd rfl h | exact absurd rfl h', fun h => by first | exact HNM.out | exact absurd h (by decide), fun h => by first | exact hsg | exact absurd h (by decide), fun h h' h'' => by first | rfl | exact absurd rfl h | exact absurd rfl h' | exact absurd h'' (by decide), fun h => by first | rfl | exact absurd rfl h⟩, HS.out⟩
    · clear xs1 xs2 xs3
      go_wp2_with fail
      go_meet
      exact ⟨0, ⟨#[]⟩, false, ⟨⟨by decide, by decide⟩, ⟨by omega, by omega⟩, fun h => by first | omega | exact hn2 | exact absurd h (by decide), fun h h' => by first | rfl | exact absurd rfl h | exact absurd rfl h', fun h => by first | exact HNM.out | exact absurd h (by decide), fun h => by first | exact hsg | exact absurd h (by decide), fun h h' h'' => by first | rfl | exact absurd rfl h | exact absurd rfl h' | exact absurd h'' (by decide), fun h => by first | rfl | exact absurd rfl h⟩, HS.out⟩
    · clear xs1 xs2 xs3
      go_wp2_with fail
      go_meet
      exact ⟨0, ⟨#[]⟩, false, ⟨⟨by decide, by decide⟩, ⟨by omega, by omega⟩, fun h => by first | omega | exact hn2 | exact absurd h (by decide), fun h h' => by first | rfl | exact absurd rfl h | exact absurd rfl h', fun h => by first | exact HNM.out | exact absurd h (by decide), fun h => by first | exact hsg | exact absurd h (by decide), fun h h' h'' => by first | rfl | exact absurd rfl h | exact absurd rfl h' | exact absurd h'' (by decide), fun h => by first | rfl | exact absurd rfl h⟩, HS.out⟩
    · clear xs1 xs2 xs3
      go_wp2_with fail
      go_meet
      exact ⟨0, ⟨#[]⟩, false, ⟨⟨by decide, by decide⟩, ⟨by omega, by omega⟩, fun h => by first | omega | exact hn2 | exact absurd h (by decide), fun h h' => by first | rfl | exact absurd rfl h | exact absurd rfl h', fun h => by first | exact HNM.out | exact absurd h (by decide), fun h => by first | exact hsg | exact absurd h (by decide), fun h h' h'' => by first | rfl | exact absurd rfl h | exact absurd rfl h' | exact absurd h'' (by decide), fun h => by first | rfl | exact absurd rfl h⟩, HS.out⟩
    · clear xs1 xs2 xs3
      go_wp2_with fail
      go_region
      all_goals
        go_wp2_with fail
        go_meet
        exact ⟨0, nm9, roff, ⟨⟨by decide, by decide⟩, ⟨by omega, by omega⟩, fun h => by first | omega | exact hn2 | exact absurd h (by decide), fun h h' => by first | rfl | exact absurd rfl h | exact absurd rfl h', fun h => by first | exact HNM.out | exact absurd h (by decide), fun h => by first | exact hsg | exact absurd h (by decide), fun h h' h'' => by first | rfl | exact absurd rfl h | exact absurd rfl h' | exact absurd h'' (by decide), fun h => by first | rfl | exact absurd rfl h⟩, ((HS.out.below ((Below.refl _ _).drew)).put rfl).put rfl⟩
    · clear xs1 xs2 xs3
      go_wp2_with fail
      go_meet
      exact ⟨0, nm9, false, ⟨⟨by decide, by decide⟩, ⟨by omega, by omega⟩, fun h => by first | omega | exact hn2 | exact absurd h (by decide), fun h h' => by first | rfl | exact absurd rfl h | exact absurd rfl h', fun h => by first | exact HNM.out | exact absurd h (by decide), fun h => by first | exact hsg | exact absurd h (by decide), fun h h' h'' => by first | rfl | exact absurd rfl h | exact absurd rfl h' | exact absurd h'' (by decide), fun h => by first | rfl | exact absurd rfl h⟩, HS.out.put rfl⟩
    · clear xs1 xs2 xs3
      go_wp2_with fail
      go_meet
      exact ⟨0, nm9, false, ⟨⟨by decide, by decide⟩, ⟨by omega, by omega⟩, fun h => by first | omega | exact hn2 | exact absurd h (by decide), fun h h' => by first | rfl | exact absurd rfl h | exact absurd rfl h', fun h => by first | exact HNM.out | exact absurd h (by decide), fun h => by first | exact hsg | exact absurd h (by decide), fun h h' h'' => by first | rfl | exact absurd rfl h | exact absurd rfl h' | exact absurd h'' (by decide), fun h => by first | rfl | exact absurd rfl h⟩, HS.out.put rfl⟩
    · clear xs1 xs2 xs3
      go_wp2_with fail
      go_meet
      exact ⟨0, nm9, false, ⟨⟨by decide, by decide⟩, ⟨by omega, by omega⟩, fun h => by first | omega | exact hn2 | exact absurd h (by decide), fun h h' => by first | rfl | exact absurd rfl h | exact absurd rfl h', fun h => by first | exact HNM.out | exact absurd h (by decide), fun h => by first | exact hsg | exact absurd h (by decide), fun h h' h'' => by first | rfl | exact absurd rfl h | exact absurd rfl h' | exact absurd h'' (by decide), fun h => by first | rfl | exact absurd rfl h⟩, HS.out.put rfl⟩
  case rest =>
    obtain ⟨N, nm, off, hown, hst⟩ := hcut
    rename_i hkk
    exact hkk _ _ (some_tail rk ra rn rnm roff rsp rsl rsc w wc D B hD hB HRW.out IH.out hrn k m A hk1 hD3 HND.out hA nm9 N nm off hown hst _ _ _ _ _ _ _ _ _ _ _ _ _ _ _ _ _ _ _ _ _ _ _ _ _ _ _ _ _ _ _ _ _ _ _ _ _ _ _ _ _ _ _ _ _ _ _ _ _ _ _ _ _ _ _ _ _ _ _ _ _ _ _ _ _ _ _ _ _ _ _ _ _ _ _ _ _ _ _ _ _ _ _ _ _ _ _ _ _ _ _ _ _ _ _ _ _ _ _ _ _ _ _ _ _ _ _ _ _ _ _ _ _ _ _ _ _ _ _ _ _ _ _ _ _ _ _ _ _ _ _ _ _ _ _ _ _ _ _ _ _ _ _)
set_option maxHeartbeats 40000000 in
set_option maxRecDepth 100000 in
theorem some_step (rk ra rn : Int) (rnm : ByteArray) (roff : Bool) (rsp : Option Addr) (rsl rsc : Nat) (w : World) (D : Nat) (hD : D ≤ 5) (B : Nat) (hB : B ≤ w.heap.size) (hraw : Raw w B D (exVal rk ra rn rnm roff (.slice rsp rsl rsc))) (ih : ∀ D1, D = D1 + 1 → ∀ v w1, Raw w1 B D1 v → B ≤ w1.heap.size → Calls Tryd.prog 20 #[v, .int .i64 D] w1 (SomeOut w1 D1)) (hrn : -9223372036854775808 ≤ rn ∧ rn ≤ 9223372036854775807) :
    Calls Tryd.prog 20 #[exVal rk ra rn rnm roff (.slice rsp rsl rsc), .int .i64 ((D : Int) + 1)] w (SomeOut w D) := by
  obtain ⟨q, hq⟩ : ∃ q : Nat, rk % 19 = (q : Int) := ⟨(rk % 19).toNat, by have := Int.emod_nonneg rk (show (19 : Int) ≠ 0 by decide); omega⟩
  have hq19 : q < 19 := by have := Int.emod_lt_of_pos rk (show (0 : Int) < 19 by decide); omega
  obtain ⟨A, hA, hAe⟩ := and_4095 ra
  have HQ := Lib.hid hq
  have HRW := Lib.hid hraw
  have IH := Lib.hid ih
  clear hraw ih
  obtain ⟨i0, hi, hz0, hz1, hz2⟩ := info_parts info45
  have i1 : (0 : Int) ≤ (q : Int) := by omega
  have i2 : (q : Int) < 19 := by omega
  clear hq
  go_enter Tryd.func20, Tryd.ntmps20
  go_upto_region 2 with fail
  obtain ⟨K, hK, hKc⟩ := kinds_at ((w.alloc (.cells #[.int .i64 rk, .int .i64 ra, .int .i64 rn, .string rnm, .bool roff, .slice rsp rsl rsc] 45)).alloc (.cells #[.int .i64 0, .int .i64 0, .int .i64 0, .string ⟨#[]⟩, .bool false, .slice none 0 0] 45)) q hq19
  generalize hW : ((w.alloc _).alloc _).alloc _ = W2
  rw [hW] at hKc
  have hz2 : W2.heap.size = w.heap.size + 3 := by rw [← hW]; simp
  have hb2 : Below w.heap.size w W2 := by rw [← hW]; exact ((((Below.refl _ _).alloc (Nat.le_refl _) _).alloc (by simp) _).alloc (by simp; omega) _)
  have hX : Blk W2 w.heap.size 45 #[.int .i64 rk, .int .i64 ra, .int .i64 rn, .string rnm, .bool roff, .slice rsp rsl rsc] := by rw [← hW]; exact ((Blk.new _ _ _).alloc _).alloc _
  have hR : Blk W2 (w.heap.size + 1) 45 #[.int .i64 0, .int .i64 0, .int .i64 0, .string ⟨#[]⟩, .bool false, .slice none 0 0] := by rw [← hW]; simpa using (Blk.new (w.alloc (.cells #[.int .i64 rk, .int .i64 ra, .int .i64 rn, .string rnm, .bool roff, .slice rsp rsl rsc] 45)) 45 #[.int .i64 0, .int .i64 0, .int .i64 0, .string ⟨#[]⟩, .bool false, .slice none 0 0]).alloc _
  have x0 := keep_cell (o := 0) hX.lt (hX.cell (v := .int .i64 rk) rfl)
  have x1 := keep_cell (o := 1) hX.lt (hX.cell (v := .int .i64 ra) rfl)
  have xk := keep_cell (W := W2) (b := w.heap.size + 1 + 1) (o := q) (by omega) (by simpa using hKc)
  have HX := Lib.hid hX; have HR := Lib.hid hR; have HZ := Lib.hid hz2; have HB := Lib.hid hb2
  clear hW hX hR hz2 hb2 hKc
  go_cut [6] (fun s6 wx => s6 = .pointer (some ⟨w.heap.size + 3, 0, none⟩) ∧ SoSt w #[.int .i64 rk, .int .i64 ra, .int .i64 rn, .string rnm, .bool roff, .slice rsp rsl rsc] D K A 0 ⟨#[]⟩ false [] (.slice none 0 0) wx)
  case first =>
    go_region_held3 (fun w' => Below W2.heap.size W2 w')
      (repeat (first | with_reducible assumption | with_reducible exact Below.refl _ _ | with_reducible refine Below.drew ?_ | with_reducible refine Below.alloc ?_ (Nat.le_refl _) _ | with_reducible refine Below.setCell ?_ (Nat.le_refl _) _))
      (first | (go_at_call 33; (with_reducible refine (mod_any _ _ (by decide) (by decide) _).mono ?_); rintro e w2 ⟨rfl, rfl⟩; rw [HQ.out]))
    all_goals
      go_wp2_with fail
      go_meet
      exact ⟨by rw [HZ.out], some_start HZ.out HB.out HX.out HR.out⟩
  case rest =>
    obtain ⟨rfl, hst⟩ := hcut
    clear x0 x1 xk HX HR HZ HB
    have HS := Lib.hid hst
    obtain ⟨x0, x1, x2, x3, x4, x5⟩ := hst.2.six
    obtain ⟨u0, u1, u2, u3, u4, u5⟩ := hst.1.2.2.1.six
    have uf0 := hst.1.2.2.1.free 0
    clear hst
    go_upto_if 25 with fail
    go_cut [] (fun wx => ∃ K2 : Int, (1 ≤ K2 ∧ K2 ≤ 14) ∧ (D = 0 → K2 ≤ 3) ∧ SoSt w #[.int .i64 rk, .int .i64 ra, .int .i64 rn, .string rnm, .bool roff, .slice rsp rsl rsc] D K2 A 0 ⟨#[]⟩ false [] (.slice none 0 0) wx)
    case first =>
      by_cases hD0 : D = 0
      · subst hD0
        obtain ⟨g, hg⟩ : ∃ g : Nat, rk % 3 = (g : Int) := ⟨(rk % 3).toNat, by have := Int.emod_nonneg rk (show (3 : Int) ≠ 0 by decide); omega⟩
        have hg3 : g < 3 := by have := Int.emod_lt_of_pos rk (show (0 : Int) < 3 by decide); omega
        have HG := Lib.hid hg
        clear hg
        go_wp2_with (go_at_call 33; (with_reducible refine (mod_any _ _ (by decide) (by decide) _).mono ?_); rintro e w2 ⟨rfl, rfl⟩; rw [HG.out])
        go_meet
        exact ⟨1 + (g : Int), by omega, fun _ => by omega, HS.out.kind _⟩
      · have hd1 : (1 : Int) ≤ (D : Int) := by omega
        go_wp2_with fail
        go_meet
        exact ⟨K, hK, fun h => absurd h hD0, HS.out⟩
    case rest =>
      obtain ⟨K2, hK2, hD3, hst⟩ := hcut
      clear x0 x1 x2 x3 x4 x5 u0 u1 u2 u3 u4 u5 uf0 HS
      have HS := Lib.hid hst
      obtain ⟨k, rfl⟩ : ∃ k : Nat, K2 = (k : Int) := ⟨K2.toNat, by omega⟩
      have hk1 : 1 ≤ k ∧ k ≤ 14 := by omega
      have i3 : (0 : Int) ≤ (k : Int) := by omega
      have i4 : (k : Int) < 15 := by omega
      obtain ⟨g4, hg4⟩ : ∃ g : Nat, ra % 4 = (g : Int) := ⟨(ra % 4).toNat, by have := Int.emod_nonneg ra (show (4 : Int) ≠ 0 by decide); omega⟩
      have hg4l : g4 < 4 := by have := Int.emod_lt_of_pos ra (show (0 : Int) < 4 by decide); omega
      obtain ⟨g3, hg3⟩ : ∃ g : Nat, ra % 3 = (g : Int) := ⟨(ra % 3).toNat, by have := Int.emod_nonneg ra (show (3 : Int) ≠ 0 by decide); omega⟩
      have hg3l : g3 < 3 := by have := Int.emod_lt_of_pos ra (show (0 : Int) < 3 by decide); omega
      have HG4 := Lib.hid hg4; have HG3 := Lib.hid hg3
      have x1 := keep_cell (o := 1) hst.2.lt (hst.2.cell (v := .int .i64 ra) rfl)
      have u0 := keep_cell (o := 0) hst.1.2.2.1.lt (hst.1.2.2.1.cell (v := .int .i64 k) rfl)
      obtain ⟨m, hm, hmc⟩ := needs_at wc k g3 g4 hk1 hg3l hg4l
      have HM := Lib.hid hmc; have HND := Lib.hid hm
      clear hst hg4 hg3 hmc hm
      go_upto_region 5 with fail
      go_cut [7] (fun s7 wx => ∃ m : Nat, s7 = .int .i64 m ∧ need k m ∧ SoSt w #[.int .i64 rk, .int .i64 ra, .int .i64 rn, .string rnm, .bool roff, .slice rsp rsl rsc] D k A 0 ⟨#[]⟩ false [] (.slice none 0 0) wx)
      case first =>
        refine wp_region_held_drew (S := fun w' => Below wc.heap.size wc w') (by kernel_rfl) ((Below.refl _ _).drew) (fun hS1 => ?_)
        refine wpAnyH_take (i := 0) (v := ?v0) rfl (by kernel_rfl) (by kernel_rfl) (by kernel_rfl) (fun _ _ _ h => h) (Or.inl ⟨by rfl, ?y0⟩) hS1 ?r0
        case y0 => (intro w hSw; (try dsimp only at hSw); go_simp; (try with_reducible rfl))
        try simp only [Act.put, List.getElem_toArray, List.getElem_cons_succ, List.getElem_cons_zero, List.setIfInBounds_toArray, List.set_cons_zero, List.set_cons_succ]
        refine wpAnyH_take (i := 1) (v := ?v1) rfl (by kernel_rfl) (by kernel_rfl) (by kernel_rfl) (fun _ _ _ h => h) (Or.inl ⟨by rfl, ?y1⟩) hS1 ?r1
        case y1 => (intro w hSw; (try dsimp only at hSw); go_simp; (try with_reducible rfl))
        try simp only [Act.put, List.getElem_toArray, List.getElem_cons_succ, List.getElem_cons_zero, List.setIfInBounds_toArray, List.set_cons_zero, List.set_cons_succ]
        refine wpAnyH_take (i := 3) (v := ?v3) rfl (by kernel_rfl) (by kernel_rfl) (by kernel_rfl) (fun _ _ _ h => h) (Or.inl ⟨by rfl, ?y3⟩) hS1 ?r3
        case y3 => (intro w hSw; (try dsimp only at hSw); go_simp; (try with_reducible rfl))
        try simp only [Act.put, List.getElem_toArray, List.getElem_cons_succ, List.getElem_cons_zero, List.setIfInBounds_toArray, List.set_cons_zero, List.set_cons_succ]
        refine wpAnyH_take (i := 4) (v := ?v4) rfl (by kernel_rfl) (by kernel_rfl) (by kernel_rfl) (fun _ _ _ h => h) (Or.inl ⟨by rfl, ?y4⟩) hS1 ?r4
        case y4 => (intro w hSw; (try dsimp only at hSw); go_simp; (try with_reducible rfl))
        try simp only [Act.put, List.getElem_toArray, List.getElem_cons_succ, List.getElem_cons_zero, List.setIfInBounds_toArray, List.set_cons_zero, List.set_cons_succ]
        refine wpAnyH_take (i := 7) (v := ?v7) rfl (by kernel_rfl) (by kernel_rfl) (by kernel_rfl) (fun _ _ _ h => h) (Or.inl ⟨by rfl, ?y7⟩) hS1 ?r7
        case y7 => (intro w hSw; (try dsimp only at hSw); go_simp; (try with_reducible rfl))
        try simp only [Act.put, List.getElem_toArray, List.getElem_cons_succ, List.getElem_cons_zero, List.setIfInBounds_toArray, List.set_cons_zero, List.set_cons_succ]
        refine wpAnyH_take (i := 8) (v := ?v8) rfl (by kernel_rfl) (by kernel_rfl) (by kernel_rfl) (fun _ _ _ h => h) (Or.inl ⟨by rfl, ?y8⟩) hS1 ?r8
        case y8 => (intro w hSw; (try dsimp only at hSw); go_simp; (try with_reducible rfl))
        try simp only [Act.put, List.getElem_toArray, List.getElem_cons_succ, List.getElem_cons_zero, List.setIfInBounds_toArray, List.set_cons_zero, List.set_cons_succ]
        refine wpAnyH_ready (rs := [2]) (by kernel_rfl) (by simp) ?_
        refine AllReadyH.cons rfl (fun K hK => ?_) AllReadyH.nil
        · go_simp
          refine (mod_any _ _ (by decide) (by decide) _).mono ?_
          rintro e w2 ⟨rfl, rfl⟩
          rw [HG4.out]
          refine hK.out _ _ hS1 (fun _ => ?_)
          clear hK K
          try simp only [Act.put, List.getElem_toArray, List.getElem_cons_succ, List.getElem_cons_zero, List.setIfInBounds_toArray, List.set_cons_zero, List.set_cons_succ]
          refine wpAnyH_ready (rs := [5]) (by kernel_rfl) (by simp) ?_
          refine AllReadyH.cons rfl (fun K hK => ?_) AllReadyH.nil
          go_simp
          refine (mod_any _ _ (by decide) (by decide) _).mono ?_
          rintro e w2 ⟨rfl, rfl⟩
          rw [HG3.out]
          refine hK.out _ _ hS1 (fun _ => ?_)
          clear hK K
          try simp only [Act.put, List.getElem_toArray, List.getElem_cons_succ, List.getElem_cons_zero, List.setIfInBounds_toArray, List.set_cons_zero, List.set_cons_succ]
          refine wpAnyH_ready (rs := [6]) (by kernel_rfl) (by simp) ?_
          refine AllReadyH.cons rfl (fun K hK => ?_) AllReadyH.nil
          go_simp
          obtain ⟨W6, hW6⟩ : ∃ W, (wc.alloc (.cells #[.int .i64 0, .int .i64 0, .int .i64 0, .int .i64 0, .int .i64 1, .int .i64 1, .int .i64 2, .int .i64 3, .int .i64 2, .int .i64 2, .int .i64 1, .int .i64 1, .int .i64 2, .int .i64 g4, .int .i64 g3] 3)).drew = W := ⟨_, rfl⟩
          have hb6 : Below wc.heap.size wc W6 := by rw [← hW6]; exact ((Below.refl _ _).alloc (Nat.le_refl _) _).drew
          have hz6 : W6.heap.size = wc.heap.size + 1 := by rw [← hW6]; simp
          have xn := keep_cell (W := W6) (b := wc.heap.size) (o := k) (by omega) (by rw [← hW6]; simpa using HM.out)
          rw [hW6]
          have HB6 := Lib.hid hb6
          clear hz6 hW6
          refine hK.out _ _ hb6 (fun _ => ?_)
          clear hK K hb6
          try simp only [Act.put, List.getElem_toArray, List.getElem_cons_succ, List.getElem_cons_zero, List.setIfInBounds_toArray, List.set_cons_zero, List.set_cons_succ]
          refine wpAnyH_mono (S' := fun w' => Below W6.heap.size W6 w') (fun w' h => HB6.out.trans (h.mono HB6.out.size)) _ _ _ _ ?_
          have hS2 : Below W6.heap.size W6 W6 := Below.refl _ _
          clear hS1
          refine wpAnyH_take (i := 9) (v := ?v9) rfl (by kernel_rfl) (by kernel_rfl) (by kernel_rfl) (fun _ _ _ h => h) (Or.inl ⟨by rfl, ?y9⟩) hS2 ?r9
          case y9 => (intro w hSw; (try dsimp only at hSw); go_simp; (try with_reducible rfl))
          try simp only [Act.put, List.getElem_toArray, List.getElem_cons_succ, List.getElem_cons_zero, List.setIfInBounds_toArray, List.set_cons_zero, List.set_cons_succ]
          refine wpAnyH_take (i := 10) (v := ?v10) rfl (by kernel_rfl) (by kernel_rfl) (by kernel_rfl) (fun _ _ _ h => h) (Or.inl ⟨by rfl, ?y10⟩) hS2 ?r10
          case y10 => (intro w hSw; (try dsimp only at hSw); go_simp; (try with_reducible rfl))
          try simp only [Act.put, List.getElem_toArray, List.getElem_cons_succ, List.getElem_cons_zero, List.setIfInBounds_toArray, List.set_cons_zero, List.set_cons_succ]
          refine wpAnyH_take (i := 11) (v := ?v11) rfl (by kernel_rfl) (by kernel_rfl) (by kernel_rfl) (fun _ _ _ h => h) (Or.inl ⟨by rfl, ?y11⟩) hS2 ?r11
          case y11 => (intro w hSw; (try dsimp only at hSw); go_simp; (try with_reducible rfl))
          try simp only [Act.put, List.getElem_toArray, List.getElem_cons_succ, List.getElem_cons_zero, List.setIfInBounds_toArray, List.set_cons_zero, List.set_cons_succ]
          refine wpAnyH_done (by kernel_rfl) ?_ _
          go_wp2_with fail
          go_meet
          exact ⟨m, rfl, HND.out, HS.out.below HB6.out⟩
      case rest =>
        obtain ⟨m, rfl, hnd, hst⟩ := hcut
        clear x1 u0 HS HM HND HG4 HG3
        have HS := Lib.hid hst
        have HND := Lib.hid hnd
        obtain ⟨g9, hg9⟩ : ∃ g : Nat, ra % 9 = (g : Int) := ⟨(ra % 9).toNat, by have := Int.emod_nonneg ra (show (9 : Int) ≠ 0 by decide); omega⟩
        have hg9l : g9 < 9 := by have := Int.emod_lt_of_pos ra (show (0 : Int) < 9 by decide); omega
        have HG9 := Lib.hid hg9
        have j1 : (0 : Int) ≤ (g9 : Int) := by omega
        have j2 : (g9 : Int) < 9 := by omega
        have x1 := keep_cell (o := 1) hst.2.lt (hst.2.cell (v := .int .i64 ra) rfl)
        clear hst hg9 hnd
        go_upto_region 6 with fail
        go_cut [8] (fun s8 wx => ∃ nm9 : ByteArray, s8 = .string nm9 ∧ nm9 ∈ names9 ∧ SoSt w #[.int .i64 rk, .int .i64 ra, .int .i64 rn, .string rnm, .bool roff, .slice rsp rsl rsc] D k A 0 ⟨#[]⟩ false [] (.slice none 0 0) wx)
        case first =>
          refine wp_region_held_drew (S := fun w' => Below wc.heap.size wc w') (by kernel_rfl) ((Below.refl _ _).drew) (fun hS1 => ?_)
          refine wpAnyH_take (i := 1) (v := ?vv1) rfl (by kernel_rfl) (by kernel_rfl) (by kernel_rfl) (fun _ _ _ h => h) (Or.inl ⟨by rfl, ?yy1⟩) hS1 ?rr1
          case yy1 => (intro w hSw; (try dsimp only at hSw); go_simp; (try with_reducible rfl))
          try simp only [Act.put, List.getElem_toArray, List.getElem_cons_succ, List.getElem_cons_zero, List.setIfInBounds_toArray, List.set_cons_zero, List.set_cons_succ]
          refine wpAnyH_take (i := 2) (v := ?vv2) rfl (by kernel_rfl) (by kernel_rfl) (by kernel_rfl) (fun _ _ _ h => h) (Or.inl ⟨by rfl, ?yy2⟩) hS1 ?rr2
          case yy2 => (intro w hSw; (try dsimp only at hSw); go_simp; (try with_reducible rfl))
          try simp only [Act.put, List.getElem_toArray, List.getElem_cons_succ, List.getElem_cons_zero, List.setIfInBounds_toArray, List.set_cons_zero, List.set_cons_succ]
          refine wpAnyH_ready (rs := [0]) (by kernel_rfl) (by simp) ?_
          refine AllReadyH.cons rfl (fun K hK => ?_) AllReadyH.nil
          go_simp
          refine (names_any _).mono ?_
          rintro x w6 ⟨rfl, hb6, hz6, hc6⟩
          have hb66 : Below wc.heap.size wc w6 := ((Below.refl _ _).drew).trans hb6
          have hn6 : g9 < names9.length := hg9l
          have xn := keep_cell (W := w6) (b := wc.heap.size) (o := g9) (v := .string names9[g9]) (by have : w6.heap.size = wc.heap.size + 1 := hz6; omega) (hc6 g9 hn6)
          have HB6 := Lib.hid hb66
          have HNM := Lib.hid (List.getElem_mem hn6)
          clear hb6 hz6 hc6
          refine hK.out _ _ hb66 (fun _ => ?_)
          clear hK K hb66
          try simp only [Act.put, List.getElem_toArray, List.getElem_cons_succ, List.getElem_cons_zero, List.setIfInBounds_toArray, List.set_cons_zero, List.set_cons_succ]
          refine wpAnyH_mono (S' := fun w' => Below w6.heap.size w6 w') (fun w' h => HB6.out.trans (h.mono HB6.out.size)) _ _ _ _ ?_
          have hS2 : Below w6.heap.size w6 w6 := Below.refl _ _
          clear hS1
          generalize names9[g9] = nm9 at xn HNM
          refine wpAnyH_ready (rs := [3]) (by kernel_rfl) (by simp) ?_
          refine AllReadyH.cons rfl (fun K hK => ?_) AllReadyH.nil
          go_simp
          refine (mod_any _ _ (by decide) (by decide) _).mono ?_
          rintro e w2 ⟨rfl, rfl⟩
          rw [HG9.out]
          refine hK.out _ _ hS2 (fun _ => ?_)
          clear hK K
          try simp only [Act.put, List.getElem_toArray, List.getElem_cons_succ, List.getElem_cons_zero, List.setIfInBounds_toArray, List.set_cons_zero, List.set_cons_succ]
          refine wpAnyH_take (i := 4) (v := ?vv4) rfl (by kernel_rfl) (by kernel_rfl) (by kernel_rfl) (fun _ _ _ h => h) (Or.inl ⟨by rfl, ?yy4⟩) hS2 ?rr4
          case yy4 => (intro w hSw; (try dsimp only at hSw); go_simp; (try with_reducible rfl))
          try simp only [Act.put, List.getElem_toArray, List.getElem_cons_succ, List.getElem_cons_zero, List.setIfInBounds_toArray, List.set_cons_zero, List.set_cons_succ]
          refine wpAnyH_take (i := 5) (v := ?vv5) rfl (by kernel_rfl) (by kernel_rfl) (by kernel_rfl) (fun _ _ _ h => h) (Or.inl ⟨by rfl, ?yy5⟩) hS2 ?rr5
          case yy5 => (intro w hSw; (try dsimp only at hSw); go_simp; (try with_reducible rfl))
          try simp only [Act.put, List.getElem_toArray, List.getElem_cons_succ, List.getElem_cons_zero, List.setIfInBounds_toArray, List.set_cons_zero, List.set_cons_succ]
          refine wpAnyH_take (i := 6) (v := ?vv6) rfl (by kernel_rfl) (by kernel_rfl) (by kernel_rfl) (fun _ _ _ h => h) (Or.inl ⟨by rfl, ?yy6⟩) hS2 ?rr6
          case yy6 => (intro w hSw; (try dsimp only at hSw); go_simp; (try with_reducible rfl))
          try simp only [Act.put, List.getElem_toArray, List.getElem_cons_succ, List.getElem_cons_zero, List.setIfInBounds_toArray, List.set_cons_zero, List.set_cons_succ]
          refine wpAnyH_done (by kernel_rfl) ?_ _
          go_wp2_with fail
          go_meet
          exact ⟨nm9, rfl, HNM.out, HS.out.below HB6.out⟩
        case rest =>
          obtain ⟨nm9, rfl, hnm, hst⟩ := hcut
          rename_i hkk
          exact hkk _ _ (some_switch rk ra rn rnm roff rsp rsl rsc w wc D B hD hB HRW.out IH.out hrn k m A hk1 hD3 HND.out hA nm9 hnm hAe hst _ _ _ _ _ _ _ _ _ _ _ _ _ _ _ _ _ _ _ _ _ _ _ _ _ _ _ _ _ _ _ _ _ _ _ _ _ _ _ _ _ _ _ _ _ _ _ _ _ _ _ _ _ _ _ _ _ _ _ _ _ _ _ _ _ _ _ _ _ _ _ _ _ _ _ _ _ _ _ _ _ _ _ _ _ _ _ _ _ _ _ _ _ _ _ _ _ _ _ _ _ _ _ _ _ _ _ _ _ _ _ _ _ _ _ _ _ _ _ _ _ _ _ _ _ _ _ _ _ _ _ _ _ _ _ _ _ _)
end Go.Proofs.YthhkjjdhecpmlaaDoor
