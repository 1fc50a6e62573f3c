/-
  A call that reads and writes a few boxes alone may be reckoned where there is nothing but these, whatever else lies in memory.
-/
import Derived.Test.YtpjffjgdnendbaaGreatDoorWMe
noncomputable section
namespace Go.Ax
open Go.RowKit
set_option linter.unusedVariables false
set_option linter.unusedSimpArgs false
mutual
/-- All names are below a number. -/
def ltV (n : Nat) : AV → Bool
  | .sl tok _ _ es => Nat.blt tok n && ltL n es
  | .agg cs => ltL n cs
  | .tup vs => ltL n vs
  | .v _ => true
  | .nilp => true
  | .nils => true
  | .nilm => true
  | .ptr id _ => Nat.blt id n
  | .ep cs => ltL n cs
  | .map id => Nat.blt id n
  | .fn _ a b => ltL n a && ltL n b
  | .iface _ x => ltV n x
  | .bs id _ _ _ => Nat.blt id n
def ltL (n : Nat) : List AV → Bool
  | [] => true
  | a :: r => ltV n a && ltL n r
end
theorem ltL_all {n : Nat} : ∀ {es : List AV}, ltL n es = true → ∀ a ∈ es, ltV n a = true
  | [], _, a, h => by cases h
  | b :: r, h, a, ha => by
    rw [ltL, Bool.and_eq_true] at h
    rcases List.mem_cons.1 ha with rfl | ha
    · exact h.1
    · exact ltL_all h.2 a ha
theorem lt_cells {n : Nat} {a : AV} (h : ltV n a = true) : ∀ c ∈ a.cells, ltV n c = true := by
  cases a with
  | agg cs => exact ltL_all h
  | _ => intro c hc; simp only [AV.cells, List.mem_cons, List.not_mem_nil, or_false] at hc; subst hc; exact h
theorem lt_flat {n : Nat} {es : List AV} (h : ltL n es = true) : ∀ c ∈ flat es, ltV n c = true := by
  intro c hc
  unfold flat at hc
  rw [List.mem_flatMap] at hc
  obtain ⟨e, he, hce⟩ := hc
  exact lt_cells (ltL_all h e he) c hce
theorem blt_lt {a b : Nat} (h : Nat.blt a b = true) : a < b := by
  have : a + 1 ≤ b := by simpa [Nat.blt] using h
  omega
/-- What a value is by some names it is by others that are the same below a number. -/
theorem VR.names {γ γ' : Gh} {w : World} {n : Nat} (hl : ∀ id, id < n → ∀ x, γ.loc id = some x → γ'.loc id = some x) (him : ∀ b o, γ.im b o → γ'.im b o) {a : AV} {x : Value} (h : VR γ w a x) : ltV n a = true → VR γ' w a x := by
  induction h with
  | v x h => intro _; exact .v x h
  | nilp => intro _; exact .nilp
  | ptr id off b s h => intro hf; exact .ptr id off b s (hl id (blt_lt hf) _ h)
  | ep cs b o c h h1 hr ih =>
    intro hf
    have hf : ltL n cs = true := hf
    exact .ep cs b o c (fun k hk => ⟨him _ _ (h k hk).1, (h k hk).2⟩) h1 (fun k hk => ih k hk (ltL_all hf _ (List.getElem_mem hk)))
  | nils => intro _; exact .nils
  | sl tok off sz es b o cap c hsz hes h1 h hr ht hf2 hc hb ih =>
    intro hf
    have hf : (Nat.blt tok n && ltL n es) = true := hf
    rw [Bool.and_eq_true] at hf
    refine .sl tok off sz es b o cap c hsz hes h1 (fun k hk => ⟨him _ _ (h k hk).1, (h k hk).2⟩) (fun k hk => ih k hk (lt_flat hf.2 _ (List.getElem_mem hk))) (fun h2 => ?_) hf2 hc hb
    obtain ⟨s, q1, q2⟩ := ht h2
    exact ⟨s, hl tok (blt_lt hf.1) _ q1, q2⟩
  | nilm => intro _; exact .nilm
  | map id b s h => intro hf; exact .map id b s (hl id (blt_lt hf) _ h)
  | fn f first caps x y hx hy h1 h2 ih1 ih2 =>
    intro hf
    have hf : (ltL n first && ltL n caps) = true := hf
    rw [Bool.and_eq_true] at hf
    exact .fn f first caps x y hx hy (fun k hk hk' => ih1 k hk hk' (ltL_all hf.1 _ (List.getElem_mem hk))) (fun k hk hk' => ih2 k hk hk' (ltL_all hf.2 _ (List.getElem_mem hk)))
  | iface t a x h ih => intro hf; exact .iface t a x (ih hf)
  | agg cs x hx h1 h ih =>
    intro hf
    have hf : ltL n cs = true := hf
    exact .agg cs x hx h1 (fun k hk hk' => ih k hk hk' (ltL_all hf _ (List.getElem_mem hk)))
  | tup vs x hx h ih =>
    intro hf
    have hf : ltL n vs = true := hf
    exact .tup vs x hx (fun k hk hk' => ih k hk hk' (ltL_all hf _ (List.getElem_mem hk)))
  | bs id off n2 sz b s cap h hc hsz hb => intro hf; exact .bs id off n2 sz b s cap (hl id (blt_lt hf) _ h) hc hsz hb
theorem VRL.names {γ γ' : Gh} {w : World} {n : Nat} (hl : ∀ id, id < n → ∀ x, γ.loc id = some x → γ'.loc id = some x) (him : ∀ b o, γ.im b o → γ'.im b o) {a : List AV} {x : List Value} (h : VRL γ w a x) (hf : ltL n a = true) : VRL γ' w a x :=
  ⟨h.1, fun k hk hk' => (h.2 k hk hk').names hl him (ltL_all hf _ (List.getElem_mem hk))⟩
/-- A box whose values name what is below a number. -/
def okC (n : Nat) : Option Cell → Bool
  | some (.box cs) => ltL n cs
  | _ => false
theorem okC_box {n : Nat} {c : Option Cell} (h : okC n c = true) : ∃ cs, c = some (.box cs) ∧ ltL n cs = true := by
  unfold okC at h
  split at h
  · exact ⟨_, rfl, h⟩
  · cases h
noncomputable def subM (S : St) : List Nat → T Cell
  | [] => .leaf
  | i :: r => T.set (subM S r) i (S.mem.get i)
noncomputable def backM (S S' : St) : List Nat → T Cell
  | [] => S.mem
  | i :: r => T.set (backM S S' r) i (S'.mem.get i)
theorem subM_get (S : St) : ∀ (l : List Nat) (j : Nat), (j ∈ l → (subM S l).get j = S.mem.get j) ∧ (j ∉ l → (subM S l).get j = none)
  | [], j => ⟨fun h => absurd h List.not_mem_nil, fun _ => rfl⟩
  | i :: r, j => by
    unfold subM
    rw [T.get_set]
    have := subM_get S r j
    refine ⟨fun h => ?_, fun h => ?_⟩
    · split
      · rename_i e; rw [e]
      · rename_i e; exact this.1 ((List.mem_cons.1 h).resolve_left e)
    · rw [if_neg (fun e => h (by rw [e]; exact List.mem_cons_self ..))]
      exact this.2 (fun h2 => h (List.mem_cons_of_mem _ h2))
theorem backM_get (S S' : St) : ∀ (l : List Nat) (j : Nat), (j ∈ l → (backM S S' l).get j = S'.mem.get j) ∧ (j ∉ l → (backM S S' l).get j = S.mem.get j)
  | [], j => ⟨fun h => absurd h List.not_mem_nil, fun _ => rfl⟩
  | i :: r, j => by
    unfold backM
    rw [T.get_set]
    have := backM_get S S' r j
    refine ⟨fun h => ?_, fun h => ?_⟩
    · split
      · rename_i e; rw [e]
      · rename_i e; exact this.1 ((List.mem_cons.1 h).resolve_left e)
    · rw [if_neg (fun e => h (by rw [e]; exact List.mem_cons_self ..))]
      exact this.2 (fun h2 => h (List.mem_cons_of_mem _ h2))
noncomputable def smallIn (N : Nat) (ids : List Nat) (args : List AV) (S : St) : Bool := ids.all (fun i => Nat.blt i N && okC N (S.mem.get i)) && ltL N args && Nat.ble N S.next && Nat.ble 2 N
noncomputable def smallOut (N : Nat) (ids : List Nat) (S : St) : R → R
  | .ret a S' => Bool.rec .fail (.ret (clean a) ⟨S.next, backM S S' ids⟩) (freeV a && ids.all (fun i => okC N (S'.mem.get i)))
  | _ => .fail
/-- A function that is run where there are these boxes alone. -/
noncomputable def viaSmall (E : Env) (m k N : Nat) (ids : List Nat) (args : List AV) (S : St) : R := Bool.rec .fail (smallOut N ids S (callX E m k args ⟨N, subM S ids⟩)) (smallIn N ids args S)
theorem viaSmall_ok {E : Env} (hE : E.Ok) (hI : IntrOk E) (hmix : E.P.follows .mixedOrders = true) (hG : E.G = fun _ => none) {m k N : Nat} (hF : (E.F k).isSome = true) (ids : List Nat) (base : Nat) (w0 : World) (args : List AV) (S : St) (hne : viaSmall E m k N ids args S ≠ .fail) (γ : Gh) (w : World) (vs : List Value) (hS : SR base w0 γ S w) (hv : VRL γ w args vs) :
    Calls E.P k vs.toArray w (RetOk base w0 γ S w (viaSmall E m k N ids args S)) := by
  unfold viaSmall at hne ⊢
  cases hin : smallIn N ids args S with
  | false => rw [hin] at hne; exact absurd rfl hne
  | true =>
  rw [hin] at hne
  have hne : smallOut N ids S (callX E m k args ⟨N, subM S ids⟩) ≠ .fail := hne
  show Calls E.P k vs.toArray w (RetOk base w0 γ S w (smallOut N ids S (callX E m k args ⟨N, subM S ids⟩)))
  unfold smallIn at hin
  simp only [Bool.and_eq_true] at hin
  obtain ⟨⟨⟨i1, i2⟩, i3⟩, i4⟩ := hin
  have hN : N ≤ S.next := Nat.le_of_ble_eq_true i3
  have hids : ∀ i ∈ ids, i < N ∧ ∃ cs, S.mem.get i = some (.box cs) ∧ ltL N cs = true := fun i hi => by
    have := List.all_eq_true.1 i1 i hi
    rw [Bool.and_eq_true] at this
    exact ⟨blt_lt this.1, okC_box this.2⟩
  cases hr : callX E m k args ⟨N, subM S ids⟩ with
  | fail => rw [hr] at hne; exact absurd rfl hne
  | pan a S' => rw [hr] at hne; exact absurd rfl hne
  | ret a S' =>
  rw [hr] at hne
  cases hf : (freeV a && ids.all (fun i => okC N (S'.mem.get i))) with
  | false =>
    have e : smallOut N ids S (.ret a S') = .fail := by
      show (Bool.rec R.fail (R.ret (clean a) ⟨S.next, backM S S' ids⟩) (freeV a && ids.all (fun i => okC N (S'.mem.get i))) : R) = _
      rw [hf]
    exact absurd e hne
  | true =>
  have e : smallOut N ids S (.ret a S') = .ret (clean a) ⟨S.next, backM S S' ids⟩ := by
    show (Bool.rec R.fail (R.ret (clean a) ⟨S.next, backM S S' ids⟩) (freeV a && ids.all (fun i => okC N (S'.mem.get i))) : R) = _
    rw [hf]
  rw [e]
  rw [Bool.and_eq_true] at hf
  have hout : ∀ i ∈ ids, ∃ cs, S'.mem.get i = some (.box cs) ∧ ltL N cs = true := fun i hi => okC_box (List.all_eq_true.1 hf.2 i hi)
  -- the few boxes
  have subOf : ∀ i c, (subM S ids).get i = some c → i ∈ ids ∧ S.mem.get i = some c := fun i c h => by
    by_cases hi : i ∈ ids
    · exact ⟨hi, by rw [← (subM_get S ids i).1 hi]; exact h⟩
    · rw [(subM_get S ids i).2 hi] at h; cases h
  have bl : ∀ {id y}, (γ.below N).loc id = some y → γ.loc id = some y ∧ id < N := fun {id y} hl => by
    have hl : (if id < N then γ.loc id else none) = some y := hl
    split at hl
    · exact ⟨hl, by assumption⟩
    · cases hl
  have down : ∀ id, id < N → ∀ x, γ.loc id = some x → (γ.below N).loc id = some x := fun id hid x hx => below_loc hx hid
  have hS0 : SR base w0 (γ.below N) ⟨N, subM S ids⟩ w := by
    refine ⟨hS.below, hS.hbase, hS.imc, fun id hid => ⟨?_, ?_⟩, Nat.le_of_ble_eq_true i4, fun id b s hl => hS.inb id b s (bl hl).1, fun id c hm => ?_, fun id id' c c' b s s' e1 e2 l1 l2 => ?_⟩
    · show (if id < N then γ.loc id else none) = none
      rw [if_neg (Nat.not_lt.2 hid)]
    · exact (subM_get S ids id).2 (fun h => by have := (hids id h).1; have hid : N ≤ id := hid; omega)
    · obtain ⟨hi, hm2⟩ := subOf id c hm
      obtain ⟨hlt, cs, hb, hcs⟩ := hids id hi
      obtain ⟨b, s, l1, l2, l3⟩ := hS.live id c hm2
      refine ⟨b, s, below_loc l1 hlt, l2, ?_⟩
      rw [hb] at hm2; injection hm2 with hm2; subst hm2
      obtain ⟨h0, h1, h2, arr, T, xx, yy, ha, hx, hr⟩ := l3
      exact ⟨h0, h1, h2, arr, T, xx, yy, ha, hx, hr.names down (fun _ _ h => h) hcs⟩
    · exact hS.inj id id' c c' b s s' (subOf id c e1).2 (subOf id' c' e2).2 (bl l1).1 (bl l2).1
  have hv0 : VRL (γ.below N) w args vs := hv.names down (fun _ _ h => h) i2
  have := callX_ok hE hI hmix m base w0 k args ⟨N, subM S ids⟩ (by rw [hr]; exact fun e => by cases e) (γ.below N) w vs hS0 (by rw [hG]; exact GR.none) hv0 hF
  rw [hr] at this
  refine this.mono fun en w' he => ?_
  obtain ⟨γ', v, h1, x, hva, rfl⟩ := he
  -- back
  have same : ∀ id, id < N → γ'.loc id = γ.loc id := fun id hid => by
    rw [x.same id hid]
    show (if id < N then γ.loc id else none) = _
    rw [if_pos hid]
  have up : ∀ id, id < N → ∀ y, γ'.loc id = some y → γ.loc id = some y := fun id hid y h => by rw [← same id hid]; exact h
  have ev : Ev γ w { γ' with loc := γ.loc } w' := ⟨fun _ _ h => h, x.ev.im, x.ev.cell, x.ev.blk⟩
  have oldBox : ∀ i c, (backM S S' ids).get i = some c → ∃ c0, S.mem.get i = some c0 := fun i c h => by
    by_cases hi : i ∈ ids
    · obtain ⟨_, cs, hb, _⟩ := hids i hi; exact ⟨_, hb⟩
    · exact ⟨c, by rw [← (backM_get S S' ids i).2 hi]; exact h⟩
  refine ⟨{ γ' with loc := γ.loc }, v, ⟨h1.below, h1.hbase, h1.imc, fun id hid => ⟨(hS.fresh id hid).1, ?_⟩, hS.pos, fun id b s hl => Nat.lt_of_lt_of_le (hS.inb id b s hl) x.size, fun id c hm => ?_, fun id id' c c' b s s' e1 e2 l1 l2 => ?_⟩,
    ⟨ev, Nat.le_refl _, fun _ _ => rfl, x.size, fun id c b s hm hl => ?_, fun b hb hn => ?_⟩, ?_, rfl⟩
  · show (backM S S' ids).get id = none
    rw [(backM_get S S' ids id).2 (fun h => by have := (hids id h).1; have hid : S.next ≤ id := hid; omega)]
    exact (hS.fresh id hid).2
  · have hm : (backM S S' ids).get id = some c := hm
    by_cases hi : id ∈ ids
    · rw [(backM_get S S' ids id).1 hi] at hm
      obtain ⟨cs, hb, hcs⟩ := hout id hi
      have hlt := (hids id hi).1
      obtain ⟨b, s, l1, l2, l3⟩ := h1.live id c hm
      rw [hb] at hm; injection hm with hm; subst hm
      obtain ⟨h0, h1', h2, arr, T, xx, yy, ha, hx, hr⟩ := l3
      exact ⟨b, s, up id hlt _ l1, l2, h0, h1', h2, arr, T, xx, yy, ha, hx, hr.names (γ' := { γ' with loc := γ.loc }) up (fun _ _ h => h) hcs⟩
    · rw [(backM_get S S' ids id).2 hi] at hm
      obtain ⟨b, s, l1, l2, l3⟩ := hS.live id c hm
      have hfr := x.frame b (hS.inb id b s l1) (fun id2 c2 s2 hm2 hl2 => by
        obtain ⟨hi2, hm3⟩ := subOf id2 c2 hm2
        have := hS.inj id id2 c c2 b s s2 hm hm3 l1 (bl hl2).1
        subst this; exact hi hi2)
      exact ⟨b, s, l1, l2, l3.keep ev hfr.1 hfr.2⟩
  · obtain ⟨d1, k1⟩ := oldBox id c e1
    obtain ⟨d2, k2⟩ := oldBox id' c' e2
    exact hS.inj id id' d1 d2 b s s' k1 k2 l1 l2
  · obtain ⟨d1, k1⟩ := oldBox id c hm
    exact .inr ⟨id, d1, s, k1, hl⟩
  · exact x.frame b hb (fun id c s hm hl => hn id c s (subOf id c hm).2 (bl hl).1)
  · exact VR.clean (γ := γ') (γ' := { γ' with loc := γ.loc }) (fun b o ho => ho) hva hf.1
end Go.Ax
