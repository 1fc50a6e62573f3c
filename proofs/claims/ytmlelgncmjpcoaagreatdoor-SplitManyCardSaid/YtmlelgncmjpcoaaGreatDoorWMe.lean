/-
  A call that hangs on no memory may be reckoned once and remembered: whatever the world, it answers the same.
-/
import Derived.Test.YtmlelgncmjpcoaaGreatDoorWHa
noncomputable section
namespace Go.Ax
open Go.RowKit
set_option linter.unusedVariables false
set_option linter.unusedSimpArgs false
mutual
/-- The same value, with no name of the run's own. -/
def clean : AV → AV
  | .sl _ _ sz es => .sl 0 0 sz (cleanL es)
  | .agg cs => .agg (cleanL cs)
  | .tup vs => .tup (cleanL vs)
  | .v x => .v x
  | .nilp => .nilp
  | .nils => .nils
  | .nilm => .nilm
  | .ptr a b => .ptr a b
  | .ep cs => .ep cs
  | .map id => .map id
  | .fn f a b => .fn f a b
  | .iface t x => .iface t x
  | .bs a b c d => .bs a b c d
def cleanL : List AV → List AV
  | [] => []
  | a :: r => clean a :: cleanL r
end
mutual
/-- Does it point to nothing that may change? -/
def freeV : AV → Bool
  | .sl _ _ _ es => freeL es
  | .agg cs => freeL cs
  | .tup vs => freeL vs
  | .v _ => true
  | .nilp => true
  | .nils => true
  | .nilm => true
  | .ptr _ _ => false
  | .ep _ => false
  | .map _ => false
  | .fn _ _ _ => false
  | .iface _ _ => false
  | .bs _ _ _ _ => false
def freeL : List AV → Bool
  | [] => true
  | a :: r => freeV a && freeL r
end
theorem cleanL_map : ∀ es, cleanL es = es.map clean
  | [] => rfl
  | a :: r => by rw [cleanL, cleanL_map r]; rfl
theorem freeL_all : ∀ {es}, freeL es = true → ∀ a ∈ es, freeV a = true
  | [], _, a, h => by cases h
  | b :: r, h, a, ha => by
    rw [freeL, Bool.and_eq_true] at h
    rcases List.mem_cons.1 ha with rfl | ha
    · exact h.1
    · exact freeL_all h.2 a ha
theorem clean_one (a : AV) : (clean a).one = a.one := by cases a <;> rfl
theorem clean_cells (a : AV) : (clean a).cells = a.cells.map clean := by
  cases a <;> first | rfl | skip
  · show cleanL _ = _; rw [cleanL_map]; rfl
theorem flat_clean : ∀ es : List AV, flat (es.map clean) = (flat es).map clean
  | [] => rfl
  | a :: r => by
    unfold flat
    rw [List.map_cons, List.flatMap_cons, List.flatMap_cons, List.map_append, clean_cells]
    have := flat_clean r
    unfold flat at this
    rw [this]
theorem freeV_cells {a : AV} (h : freeV a = true) : ∀ c ∈ a.cells, freeV c = true := by
  cases a with
  | agg cs => exact freeL_all h
  | _ => intro c hc; simp only [AV.cells, List.mem_cons, List.not_mem_nil, or_false] at hc; subst hc; exact h
theorem free_flat {es : List AV} (h : freeL es = true) : ∀ c ∈ flat es, freeV c = true := by
  intro c hc
  unfold flat at hc
  rw [List.mem_flatMap] at hc
  obtain ⟨e, he, hce⟩ := hc
  exact freeV_cells (freeL_all h e he) c hce
/-- What points to nothing that may change stands for the same by any names, as long as the cells that stay are known to. -/
theorem VR.clean {γ γ' : Gh} {w : World} (him : ∀ b o, γ.im b o → γ'.im b o) {a : AV} {x : Value} (h : VR γ w a x) : freeV a = true → VR γ' w (Go.Ax.clean a) x := by
  induction h with
  | v x h => intro _; exact .v x h
  | nilp => intro _; exact .nilp
  | ptr id off b s h => intro hf; cases hf
  | ep cs b o c h h1 hr ih => intro hf; cases hf
  | nils => intro _; exact .nils
  | sl tok off sz es b o cap c hsz hes h1 h hr ht hf2 hc hb ih =>
    intro hf
    have hf : freeL es = true := hf
    show VR γ' w (.sl 0 0 sz (cleanL es)) _
    rw [cleanL_map]
    have hlen : (flat (es.map Go.Ax.clean)).length = (flat es).length := by rw [flat_clean, List.length_map]
    have key := VR.sl (γ := γ') (w := w) 0 0 sz (es.map Go.Ax.clean) b o cap c hsz (fun e he => by
        obtain ⟨e', he', rfl⟩ := List.mem_map.1 he
        rw [clean_cells, List.length_map]; exact hes e' he') (fun y hy => by
        rw [flat_clean] at hy
        obtain ⟨y', hy', rfl⟩ := List.mem_map.1 hy
        rw [clean_one]; exact h1 y' hy') (fun k hk => ⟨him _ _ (h k (by rw [← hlen]; exact hk)).1, (h k (by rw [← hlen]; exact hk)).2⟩) (fun k hk => by
        have hk' : k < (flat es).length := by rw [← hlen]; exact hk
        have := ih k hk' (free_flat hf _ (List.getElem_mem hk'))
        have e : (flat (es.map Go.Ax.clean))[k] = Go.Ax.clean (flat es)[k] := by
          simp only [flat_clean, List.getElem_map]
        rw [e]; exact this) (fun h => by omega) (fun h => by omega) (by rw [List.length_map]; exact hc) hb
    rw [List.length_map] at key
    exact key
  | nilm => intro _; exact .nilm
  | map id b s h => intro hf; cases hf
  | fn f first caps x y hx hy h1 h2 ih1 ih2 => intro hf; cases hf
  | iface t a x h ih => intro hf; cases hf
  | agg cs x hx h1 h ih =>
    intro hf
    have hf : freeL cs = true := hf
    show VR γ' w (.agg (cleanL cs)) _
    rw [cleanL_map]
    refine .agg _ x (by rw [hx, List.length_map]) (fun a ha => ?_) (fun k hk hk' => ?_)
    · obtain ⟨a', ha', rfl⟩ := List.mem_map.1 ha
      rw [clean_one]; exact h1 a' ha'
    · rw [List.getElem_map]
      have hk2 : k < cs.length := by rw [List.length_map] at hk; exact hk
      exact ih k hk2 hk' (freeL_all hf _ (List.getElem_mem hk2))
  | tup vs x hx h ih =>
    intro hf
    have hf : freeL vs = true := hf
    show VR γ' w (.tup (cleanL vs)) _
    rw [cleanL_map]
    refine .tup _ x (by rw [hx, List.length_map]) (fun k hk hk' => ?_)
    rw [List.getElem_map]
    have hk2 : k < vs.length := by rw [List.length_map] at hk; exact hk
    exact ih k hk2 hk' (freeL_all hf _ (List.getElem_mem hk2))
  | bs id off n2 sz b s cap h hc hsz hb => intro hf; cases hf
/-- More cells are known to stay. -/
def Gh.more (γ γ1 : Gh) : Gh := { γ with im := fun b o => γ.im b o ∨ γ1.im b o }
theorem SR.more {base : Nat} {w0 w w' : World} {γ γ1 : Gh} {S : St} (h : SR base w0 γ S w) (hb : Below w.heap.size w w') (hi : ∀ b o, γ1.im b o → w.heap.size ≤ b ∧ ∃ v, w'.cell? ⟨b, o, none⟩ = some v) : SR base w0 (γ.more γ1) S w' ∧ Ext γ S w (γ.more γ1) S w' := by
  have hc : ∀ b o v, w.cell? ⟨b, o, none⟩ = some v → w'.cell? ⟨b, o, none⟩ = some v := fun b o v hv => (hb.cell (World.block_lt_of_cell? w _ hv)).trans hv
  have ev : Ev γ w (γ.more γ1) w' := ⟨fun _ _ h => h, fun _ _ h => .inl h, fun b o v _ hv => hc b o v hv, fun b arr T fr ha => ⟨arr, fr, (hb.block b (Array.getElem?_eq_some_iff.1 ha).1).trans ha, rfl⟩⟩
  have him : ∀ b, b < w.heap.size → ∀ o, (γ.more γ1).im b o → γ.im b o := fun b hlt o ho => ho.elim id (fun h => by have := (hi b o h).1; omega)
  refine ⟨⟨h.below.trans (hb.mono h.hbase), Nat.le_trans h.hbase hb.size, fun b o ho => ?_, h.fresh, h.pos, fun id b s e => Nat.lt_of_lt_of_le (h.inb id b s e) hb.size, fun id c e => ?_, h.inj⟩,
    ⟨ev, Nat.le_refl _, fun _ _ => rfl, hb.size, fun id c b s h l => .inr ⟨id, c, s, h, l⟩, fun b hl _ => ⟨hb.block b hl, him b hl⟩⟩⟩
  · rcases ho with ho | ho
    · obtain ⟨v, hv⟩ := h.imc b o ho; exact ⟨v, hc b o v hv⟩
    · exact (hi b o ho).2
  · obtain ⟨b, s, h1, h2, h3⟩ := h.live id c e
    exact ⟨b, s, h1, h2, h3.keep ev (hb.block b (h.inb id b s h1)) (fun o => him b (h.inb id b s h1) o)⟩
/-- What a run answers, cleaned. -/
def cleanR : R → Option AV
  | .ret a _ => Bool.rec none (some (clean a)) (freeV a)
  | _ => none
theorem memo {E : Env} (hE : E.Ok) (hI : IntrOk E) (hmix : E.P.follows .mixedOrders = true) (hG : E.G = fun _ => none) {m : Nat} {k : FuncId} {args : List AV} {a : AV} (h : cleanR (callX E m k args St0) = some a) (hF : (E.F k).isSome = true)
    {base : Nat} {w0 : World} {γ : Gh} {S : St} {w : World} {vs : List Value} (hS : SR base w0 γ S w) (hv : VRL Gh0 w args vs) : Calls E.P k vs.toArray w (RetOk base w0 γ S w (.ret a S)) := by
  cases hr : callX E m k args St0 with
  | fail => rw [hr] at h; cases h
  | pan a S => rw [hr] at h; cases h
  | ret a1 S1 =>
    rw [hr] at h
    have hne : callX E m k args St0 ≠ .fail := by rw [hr]; exact fun e => by cases e
    have := callX_ok hE hI hmix m w.heap.size w k args St0 hne Gh0 w vs (SR.start w) (by rw [hG]; exact GR.none) hv hF
    rw [hr] at this
    refine this.mono fun e w' he => ?_
    obtain ⟨γ', v, h1, h2, h3, rfl⟩ := he
    cases hf : freeV a1 with
    | false => simp only [cleanR, hf] at h; cases h
    | true =>
      simp only [cleanR, hf] at h
      injection h with h; subst h
      have hi : ∀ b o, γ'.im b o → w.heap.size ≤ b ∧ ∃ v, w'.cell? ⟨b, o, none⟩ = some v := fun b o ho => by
        refine ⟨?_, h1.imc b o ho⟩
        by_cases hlt : b < w.heap.size
        · exact ((h2.frame b hlt (fun id c s hm hl => by cases hl)).2 o ho).elim
        · omega
      obtain ⟨q1, q2⟩ := hS.more h1.below hi
      exact ⟨_, v, q1, q2, h3.clean (γ' := γ.more γ') (fun b o ho => Or.inr ho) hf, rfl⟩
end Go.Ax
