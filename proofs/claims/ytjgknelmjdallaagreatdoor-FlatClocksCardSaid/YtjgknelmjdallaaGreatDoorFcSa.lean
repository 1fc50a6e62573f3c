/-
  Regions whose order is drawn, with one new variable that may come up among the calls.
-/
import Derived.Test.YtjgknelmjdallaaGreatDoorFcSp
noncomputable section
namespace Go.Ax
open Go.RowKit
set_option linter.unusedVariables false
set_option linter.unusedSimpArgs false

theorem wp_keep {P : Program} {o : Oper} {act : Act} {w : World} {K : Act → World → Prop} {Q : Exit → Act → World → Prop} {d : Nat} (hd : o.dst ≠ some d) (h : o.wp P act w (fun a w => a.tmps[d]? = act.tmps[d]? → K a w) Q) : o.wp P act w K Q := by
  have hp : ∀ (act' : Act) (v : Value), act'.tmps = act.tmps → (act'.put o.dst v).tmps[d]? = act.tmps[d]? := fun act' v he => by
    unfold Act.put
    split
    · rename_i x hx
      show (act'.tmps.setIfInBounds x v)[d]? = _
      rw [Array.getElem?_setIfInBounds_ne (fun e => by subst e; exact hd hx), he]
    · rw [he]
  unfold Oper.wp at h ⊢
  generalize (execOp act.eval o).run P w = r at h ⊢
  unfold Oper.upon at h ⊢
  split at h
  · exact h (hp act _ rfl)
  · exact h (hp act _ rfl)
  · exact h (hp _ _ rfl)
  · refine h.mono fun e w' he => ?_
    cases e with
    | returned v => exact he (hp act v rfl)
    | panicked c => exact he
    | outgrown => exact he
  · exact h.mono fun v w' he => he (hp act v rfl)
  · exact h
  · exact h.elim
theorem put_keep {o : Oper} {act : Act} {v : Value} {d : Nat} (hd : o.dst ≠ some d) : (act.put o.dst v).tmps[d]? = act.tmps[d]? := by
  unfold Act.put
  split
  · rename_i x hx
    show (act.tmps.setIfInBounds x v)[d]? = _
    rw [Array.getElem?_setIfInBounds_ne (fun e => by subst e; exact hd hx)]
  · rfl
section
variable {E : Env} {callK : CallK} {n : Nat} {ops : Array Oper} {ms : List Nat}
/-- Where nobody may come up, all have come up. -/
theorem all_listed (hm : masksOk ms ops.toList 0 = true) {listed : Array Bool} (hsz : listed.size = ops.size) (hr : Region.ready .any ops listed = []) : ∀ i, i < ops.size → listed.getD i true = true := by
  intro i
  induction i using Nat.strongRecOn with
  | _ i ihi =>
    intro hlt
    cases hun : listed.getD i true with
    | true => rfl
    | false =>
      exfalso
      have hoi : ops[i]? = some ops[i] := Array.getElem?_eq_getElem hlt
      have hk := masksOk_at hm (k := i) (o := ops[i]) (by simp [hlt])
      have : i ∈ Region.ready .any ops listed := mem_ready.2 ⟨hun, ops[i], hoi, fun e he hb => by
        have hel := hk.2 e he hb
        rw [Nat.zero_add] at hel
        have h1 := ihi e.on hel (by omega)
        rw [getD_same (by omega) true false] at h1
        exact h1⟩
      rw [hr] at this
      cases this
/-- The new variable's block, if it has come up: nobody names it yet. -/
structure Pend (γ : Gh) (S : St) (w : World) (act : Act) (lo d e : Nat) (cs : Array Value) (b : Nat) : Prop where
  tmp : act.tmps[d]? = some (.pointer (some ⟨b, 0, none⟩))
  blk : w.heap[b]? = some (Obj.cells cs e (0, 0))
  lo : lo ≤ b
  lt : b < w.heap.size
  non : ∀ id c s, S.mem.get id = some c → γ.loc id ≠ some (b, s)
  im : ∀ o, ¬ γ.im b o
theorem Pend.step {γ γ' : Gh} {S S' : St} {w w' : World} {act act' : Act} {lo d e b : Nat} {cs : Array Value} (h : Pend γ S w act lo d e cs b) (x : Ext γ S w γ' S' w') (ht : act'.tmps[d]? = act.tmps[d]?) : Pend γ' S' w' act' lo d e cs b := by
  obtain ⟨f1, f2⟩ := x.frame b h.lt h.non
  refine ⟨ht.trans h.tmp, f1.trans h.blk, h.lo, Nat.lt_of_lt_of_le h.lt x.size, fun id c s hm hl => ?_, fun o ho => h.im o (f2 o ho)⟩
  rcases x.liv id c b s hm hl with h1 | ⟨i0, c0, s0, e0, l0⟩
  · have := h.lt; omega
  · exact h.non i0 c0 s0 e0 l0
/-- It gets its name. -/
theorem Pend.named {base : Nat} {w0 ws : World} {γ0 γ : Gh} {S0 S : St} {w : World} {act : Act} {d e b : Nat} {av : AV} {z : Value} (hS : SR base w0 γ S w) (hx : Ext γ0 S0 ws γ S w) (hlo : base ≤ ws.heap.size) (hz : ofConst 8 z = some av) (hnt : av.noTup = true)
    (h : Pend γ S w act ws.heap.size d e z.cells b) {f : Fr} (ha : AR γ w n f act) (hd : d < n) :
    ∃ γ', SR base w0 γ' ⟨S.next + 1, S.mem.set S.next (some (.box av.cells))⟩ w ∧ Ext γ0 S0 ws γ' ⟨S.next + 1, S.mem.set S.next (some (.box av.cells))⟩ w ∧ Ev γ w γ' w ∧ AR γ' w n ⟨f.tmps.set d (some (.ptr S.next 0)), f.dfr⟩ act := by
  have hv := ofConst_sound (γ := γ) (w := w) hz
  have hf := hS.fresh S.next (Nat.le_refl _)
  have ev : Ev γ w (γ.withLoc S.next b 0) w := ev_loc hf.1
  obtain ⟨k1, k2⟩ := hS.name b 0 (.box av.cells) (Nat.le_trans hlo h.lo) h.lt ⟨rfl, h.im, hv.ones (noTup_ne hnt), z.cells, e, z.cells.toList, [], h.blk, by simp, hv.cells⟩ (fun id c s' hm => h.non id c s' hm)
  refine ⟨γ.withLoc S.next b 0, k1, ?_, ev, ?_⟩
  · refine ⟨hx.ev.trans ev, Nat.le_succ_of_le hx.next, fun id hid => ?_, hx.size, fun id c b' s' hm hl => ?_, fun b' hb' hn => ?_⟩
    · show (if id = S.next then some (b, 0) else γ.loc id) = γ0.loc id
      rw [if_neg (by have := hx.next; omega)]
      exact hx.same id hid
    · have hm : (S.mem.set S.next (some (.box av.cells))).get id = some c := hm
      have hl : (if id = S.next then some (b, 0) else γ.loc id) = some (b', s') := hl
      rw [T.get_set] at hm
      split at hm
      · rename_i hid
        rw [if_pos hid] at hl
        injection hl with hl; injection hl with l1 l2; subst l1
        exact .inl h.lo
      · rename_i hid
        rw [if_neg hid] at hl
        exact hx.liv id c b' s' hm hl
    · exact hx.frame b' hb' hn
  · refine ⟨fun t a hta => ?_, ha.size, ha.dfr.mono ev⟩
    have hq : (f.tmps.set d (some (.ptr S.next 0))).get t = some a := hta
    rw [T.get_set] at hq
    split at hq
    · rename_i e; subst e
      injection hq with hq2; subst hq2
      refine ⟨by rw [ha.size]; exact hd, ?_⟩
      rw [Array.getD_eq_getD_getElem?, h.tmp]
      exact .ptr S.next 0 b 0 (by show (if S.next = S.next then _ else _) = _; rw [if_pos rfl])
    · obtain ⟨q1, q2⟩ := ha.tmps t a hq
      exact ⟨q1, q2.mono ev⟩
theorem alloc_run {P : Program} {act : Act} {o : Oper} {e : TypeId} {i : TypeInfo} {z : Value} (ho : o.op = .alloc e) (hi : P.info? e = some i) (hz : i.zero = some z) (w : World) : (execOp act.eval o).run P w = .ok (.value (.pointer (some ⟨w.heap.size, 0, none⟩))) (w.alloc (.cells z.cells e)) := by
  simp [execOp, ho, Instr.alloc, zeroValue, typeInfo, hi, hz, newVar, newRow]
/-- Pure looks need not be looked at again. -/
theorem drun_tail {fb : Fr} (M : List Look) (hM : ∀ l ∈ M, pureO l.o = true) : ∀ (rem : List Nat) (f : Fr) (S : St) (L : List Look), drun E callK n ops ms fb rem f S (L ++ M) = drun E callK n ops ms fb rem f S L
  | [], f, S, L => by unfold drun; rfl
  | i :: r, f, S, L => by
    unfold drun
    cases ops[i]? with
    | none => rfl
    | some o =>
      simp only
      split
      · cases lookV E ops o f.tmps S with
        | none => rfl
        | some a =>
          simp only
          split
          · exact drun_tail M hM r _ S (⟨i, o, f.tmps, a⟩ :: L)
          · rfl
      · cases stepR E callK ops o f.tmps S with
        | val a S' =>
          simp only
          have : (L ++ M).all (recheck E ops (ms.getD i 0) S') = L.all (recheck E ops (ms.getD i 0) S') := by
            rw [List.all_append]
            have : M.all (recheck E ops (ms.getD i 0) S') = true := List.all_eq_true.2 fun l hl => by unfold recheck; rw [hM l hl]; simp
            rw [this, Bool.and_true]
          rw [this]
          split
          · exact drun_tail M hM r _ S' L
          · rfl
        | _ => rfl
def PureAt (ops : Array Oper) (d : Nat) (k : Nat) : Prop := ∃ o, ops[k]? = some o ∧ isLook o = true ∧ pureO o = true ∧ o.dst ≠ some d ∧ d ∉ o.looksAt ops
/-- Pure looks, ahead of the new variable or behind it. -/
theorem pure_tail {fb : Fr} {da : Nat} {x : AV} {S S2 : St} {post : List Nat} : ∀ (rem : List Nat) (f : Fr) (L L2 : List Look) (R : O), (∀ k ∈ rem, PureAt ops da k) → drun E callK n ops ms fb rem f S L = R → R ≠ .fail →
    ∃ f', R = .out .normal f' S ∧ ∃ M, (∀ l ∈ M, pureO l.o = true) ∧ drun E callK n ops ms fb (rem ++ post) ⟨f.tmps.set da (some x), f.dfr⟩ S2 L2 = drun E callK n ops ms fb post ⟨f'.tmps.set da (some x), f'.dfr⟩ S2 (M ++ L2)
  | [], f, L, L2, R, hp, h, hne => by
    unfold drun at h
    exact ⟨f, h.symm, [], fun _ h => absurd h List.not_mem_nil, rfl⟩
  | i :: r, f, L, L2, R, hp, h, hne => by
    obtain ⟨o, ho, hl, hpu, hd, hn⟩ := hp i (List.mem_cons_self ..)
    unfold drun at h
    rw [ho] at h
    simp only at h
    rw [if_pos hl] at h
    split at h
    · rename_i a hv
      split at h
      · rename_i hok
        have hag : agree ops o (f.tmps.set da (some x)) f.tmps := fun t ht => by rw [T.get_set, if_neg (fun e => by subst e; exact hn ht)]
        have hv2 : lookV E ops o (f.tmps.set da (some x)) S2 = some a := by rw [lookV_congr hag, pure_lookV (S' := S) hpu]; exact hv
        have hput : putT ⟨f.tmps.set da (some x), f.dfr⟩ o.dst a = ⟨(putT f o.dst a).tmps.set da (some x), (putT f o.dst a).dfr⟩ := by
          unfold putT
          split
          · rfl
          · rename_i d hd2
            have hne2 : d ≠ da := fun e => by subst e; exact hd hd2
            simp only [T.set_comm f.tmps hne2]
        obtain ⟨f', k1, M, k2, k3⟩ := pure_tail (post := post) (S2 := S2) (x := x) r (putT f o.dst a) (⟨i, o, f.tmps, a⟩ :: L) (⟨i, o, f.tmps.set da (some x), a⟩ :: L2) R (fun k hk => hp k (List.mem_cons_of_mem _ hk)) h hne
        refine ⟨f', k1, M ++ [⟨i, o, f.tmps.set da (some x), a⟩], fun l hl => ?_, ?_⟩
        · rcases List.mem_append.1 hl with hl | hl
          · exact k2 l hl
          · rw [List.mem_singleton.1 hl]; exact hpu
        · have e : drun E callK n ops ms fb (i :: (r ++ post)) ⟨f.tmps.set da (some x), f.dfr⟩ S2 L2 = drun E callK n ops ms fb (r ++ post) (putT ⟨f.tmps.set da (some x), f.dfr⟩ o.dst a) S2 (⟨i, o, f.tmps.set da (some x), a⟩ :: L2) := by
            rw [drun, ho]
            simp only
            rw [if_pos hl, hv2]
            simp only
            rw [if_pos hok]
          rw [List.cons_append, e, hput, k3]
          simp
      · exact absurd h.symm hne
    · exact absurd h.symm hne
/-- Up to where the others and the new variable have come up. -/
theorem drawn_pre {base : Nat} {w0 : World} {Q : Exit → Act → World → Prop} (hE : E.Ok) (hC : CallOk E base w0 callK) (hm : masksOk ms ops.toList 0 = true) {fb : Fr} {γ0 : Gh} {S0 : St} {ws : World} (hlo : base ≤ ws.heap.size)
    {a : Nat} {oa : Oper} {da e : Nat} {i : TypeInfo} {z : Value} (hoa : ops[a]? = some oa) (hop : oa.op = .alloc e) (hgd : oa.guard = none) (hda : oa.dst = some da) (hdn0 : da < n) (hi : E.P.info? e = some i) (hz : i.zero = some z)
    {pre post : List Nat} (hap : a ∉ pre) (hpost : ∀ p ∈ post, (ms.getD p 0).testBit a = true ∧ ∀ x ∈ pre, (ms.getD p 0).testBit x = true ∨ PureAt ops da x) (hcov : ∀ k, k < ops.size → k ∈ pre ∨ k = a ∨ k ∈ post) (hin : ∀ p ∈ pre, p < ops.size) (hdp : ∀ p ∈ pre, ∀ o, ops[p]? = some o → o.dst ≠ some da)
    {R : O} (hne : R ≠ .fail) (hpan : ∀ x S', R = .out (.pan x) fb S' → ∀ γ' act' w', SR base w0 γ' S' w' → Ext γ0 S0 ws γ' S' w' → AR γ' w' n fb act' → ∀ v, VR γ' w' x v → Q (.panic [{ v, recovered := false }]) act' w')
    (hcont : ∀ (fuel : Nat) (listed : Array Bool) (f : Fr) (S : St) (γ : Gh) (w : World) (act : Act) (b : Nat) (rem : List Nat), drun E callK n ops ms fb rem f S [] = R → (∀ k ∈ rem, PureAt ops da k ∧ k ∈ pre) → rem.Nodup → pairsOk ops ms rem = true → listed.size = ops.size → (∀ k, k < ops.size → (k ∈ rem ++ post ↔ listed.getD k true = false)) → rem.length + post.length ≤ fuel → Dn ops listed → SR base w0 γ S w → Ext γ0 S0 ws γ S w → AR γ w n f act → GR γ w E.G → FbOk ops fb f → Pend γ S w act ws.heap.size da e z.cells b → wpAny E.P .any ops Q fuel listed act w) :
    ∀ (fuel : Nat) (rem : List Nat) (st : Option Nat) (listed : Array Bool) (f : Fr) (S : St) (γ : Gh) (w : World) (act : Act),
    listed.size = ops.size → (∀ k, k ∈ rem ↔ k ∈ pre ∧ listed.getD k true = false) → rem.Nodup → (∀ p ∈ post, p < ops.size → listed.getD p true = false) → (listed.getD a true = true ↔ st.isSome = true) → rem.length + (if st.isSome then 0 else 1) + post.length ≤ fuel → Dn ops listed → pairsOk ops ms rem = true →
    SR base w0 γ S w → Ext γ0 S0 ws γ S w → AR γ w n f act → GR γ w E.G → FbOk ops fb f → f.tmps.get da = none → (∀ b, st = some b → Pend γ S w act ws.heap.size da e z.cells b) → drun E callK n ops ms fb rem f S [] = R → wpAny E.P .any ops Q fuel listed act w := by
  have hal : a < ops.size := (Array.getElem?_eq_some_iff.1 hoa).1
  intro fuel
  induction fuel with
  | zero =>
    intro rem st listed f S γ w act hsz hrem hnd hpl hst hlen hdn hp hS hx ha hg hfb hfd hpd hR
    have hr0 : rem = [] := List.eq_nil_of_length_eq_zero (by omega)
    have hs0 : st.isSome = true := by
      cases hq : st.isSome with
      | true => rfl
      | false => rw [hq] at hlen; simp at hlen
    obtain ⟨b, rfl⟩ := Option.isSome_iff_exists.1 hs0
    subst hr0
    refine hcont 0 listed f S γ w act b [] hR (fun _ h => absurd h List.not_mem_nil) List.nodup_nil rfl hsz (fun k hk => ⟨fun h => hpl k (by simpa using h) hk, fun h => ?_⟩) (by simpa using hlen) hdn hS hx ha hg hfb (hpd b rfl)
    rcases hcov k hk with h1 | h1 | h1
    · exact absurd ((hrem k).2 ⟨h1, h⟩) (by simp)
    · subst h1; rw [hst.2 rfl] at h; cases h
    · simpa using h1
  | succ fuel ih =>
    intro rem st listed f S γ w act hsz hrem hnd hpl hst hlen hdn hp hS hx ha hg hfb hfd hpd hR
    by_cases hdone : (∀ k ∈ rem, PureAt ops da k) ∧ st.isSome = true
    · obtain ⟨hr0, hs0⟩ := hdone
      obtain ⟨b, rfl⟩ := Option.isSome_iff_exists.1 hs0
      refine hcont (fuel + 1) listed f S γ w act b rem hR (fun k hk => ⟨hr0 k hk, ((hrem k).1 hk).1⟩) hnd hp hsz (fun k hk => ⟨fun h => ?_, fun h => ?_⟩) (by simpa using hlen) hdn hS hx ha hg hfb (hpd b rfl)
      · rcases List.mem_append.1 h with h | h
        · exact ((hrem k).1 h).2
        · exact hpl k h hk
      · rw [List.mem_append]
        rcases hcov k hk with h1 | h1 | h1
        · exact .inl ((hrem k).2 ⟨h1, h⟩)
        · subst h1; rw [hst.2 rfl] at h; cases h
        · exact .inr h1
    -- somebody of these has not come up
    have hsome : ∃ k, ((k ∈ pre ∧ ¬ PureAt ops da k) ∨ k = a) ∧ k < ops.size ∧ listed.getD k true = false := by
      cases hs : st.isSome with
      | false =>
        refine ⟨a, .inr rfl, hal, ?_⟩
        cases hq : listed.getD a true with
        | false => rfl
        | true => rw [hst.1 hq] at hs; cases hs
      | true =>
        have : ¬ ∀ k ∈ rem, PureAt ops da k := fun h => hdone ⟨h, hs⟩
        have : ∃ k, k ∈ rem ∧ ¬ PureAt ops da k := Classical.byContradiction fun hc => this fun k hk => Classical.byContradiction fun hn => hc ⟨k, hk, hn⟩
        obtain ⟨k, hk, hnp⟩ := this
        have h2 := (hrem k).1 hk
        exact ⟨k, .inl ⟨h2.1, hnp⟩, hin k h2.1, h2.2⟩
    obtain ⟨k0, hk0, hk1, hk2⟩ := hsome
    refine ⟨fun hready => ?_, fun j hj => ?_⟩
    · rw [all_listed hm hsz hready k0 hk1] at hk2; cases hk2
    · obtain ⟨hun, o, ho, hpre⟩ := mem_ready.1 hj
      have hjl : j < ops.size := (Array.getElem?_eq_some_iff.1 ho).1
      have hjp : j ∉ post := fun h => by
        obtain ⟨p1, p2⟩ := hpost j h
        have hb : (ms.getD j 0).testBit k0 = true := by
          rcases hk0 with ⟨h0, h1⟩ | h0
          · exact (p2 k0 h0).resolve_right h1
          · rw [h0]; exact p1
        have := bit_listed hm hdn j o ho hpre hb
        rw [getD_same (by omega) true false, this] at hk2; cases hk2
      -- what it leaves
      have lists : ∀ k, (listed.setIfInBounds j true).getD k true = if j = k then true else listed.getD k true := fun k => getD_put _ _ _ _ (by omega)
      have dn' : Dn ops (listed.setIfInBounds j true) := fun k ok hok hlk e0 he0 hbd => by
        rw [getD_put _ _ _ _ (by omega)] at hlk ⊢
        split
        · rfl
        · split at hlk
          · rename_i hij
            subst hij
            rw [ho] at hok; injection hok with hok; subst hok
            exact hpre e0 he0 hbd
          · exact hdn k ok hok hlk e0 he0 hbd
      rcases hcov j hjl with hjpre | hja | h
      · -- one of the others
        have hjr : j ∈ rem := (hrem j).2 ⟨hjpre, hun⟩
        have hja : j ≠ a := fun e => hap (e ▸ hjpre)
        have hfree : ∀ k ∈ rem, k ≠ j → (ms.getD j 0).testBit k = false := fun k hk _ => by
          cases hb : (ms.getD j 0).testBit k with
          | false => rfl
          | true =>
            have h1 := bit_listed hm hdn j o ho hpre hb
            have h2 := ((hrem k).1 hk)
            rw [getD_same (by rw [hsz]; exact hin k h2.1) true false, h1] at h2
            cases h2.2
        have hb := bubble ho rem f S [] R hjr hfree hp hR hne
        have sub : ∀ (l : List Nat), pairsOk ops ms l = true → pairsOk ops ms (l.erase j) = true := by
          intro l
          induction l with
          | nil => intro h; exact h
          | cons x r ihl =>
            intro h
            unfold pairsOk at h
            rw [Bool.and_eq_true] at h
            by_cases hx : x = j
            · subst hx; rw [List.erase_cons_head]; exact h.2
            · rw [List.erase_cons_tail (by simpa using hx)]
              unfold pairsOk
              rw [Bool.and_eq_true]
              exact ⟨List.all_eq_true.2 fun y hy => List.all_eq_true.1 h.1 y (List.mem_of_mem_erase hy), ihl h.2⟩
        have hdo : o.dst ≠ some da := hdp j hjpre o ho
        have next : ∀ (f' : Fr) (S' : St) (γ' : Gh) (act' : Act) (w' : World), SR base w0 γ' S' w' → Ext γ S w γ' S' w' → AR γ' w' n f' act' → FbOk ops fb f' → f'.tmps.get da = none → act'.tmps[da]? = act.tmps[da]? → drun E callK n ops ms fb (rem.erase j) f' S' [] = R →
            wpAny E.P .any ops Q fuel (listed.setIfInBounds j true) act' w' := fun f' S' γ' act' w' k1 k2 k3 k4 k5 k6 k7 => by
          refine ih (rem.erase j) st (listed.setIfInBounds j true) f' S' γ' w' act' (by simpa using hsz) (fun k => ?_) (hnd.erase j) (fun p hp' hlt => ?_) ?_ (by rw [List.length_erase_of_mem hjr]; have := List.length_pos_of_mem hjr; omega) dn' (sub rem hp) k1 (hx.trans k2) k3 (hg.mono k2.ev) k4 k5 (fun b hb' => (hpd b hb').step k2 k6) k7
          · rw [hnd.mem_erase_iff, hrem k, lists]
            by_cases hjk : j = k
            · subst hjk; simp
            · rw [if_neg hjk]; exact ⟨fun h => h.2, fun h => ⟨fun e => hjk e.symm, h⟩⟩
          · rw [lists, if_neg (fun e => by subst e; exact hjp hp')]; exact hpl p hp' hlt
          · rw [lists, if_neg hja]; exact hst
        have hst2 := stepO_eq (E := E) (callK := callK) (n := n) (ops := ops) o f S
        have dset : ∀ x, (putT f o.dst x).tmps.get da = none := fun x => by
          unfold putT
          split
          · exact hfd
          · rename_i d hd
            show (f.tmps.set d (some x)).get da = none
            rw [T.get_set, if_neg (fun e => by subst e; exact hdo hd)]; exact hfd
        have key : Holds base w0 n γ S w (fun x a' w' => match x with | .normal => (a'.tmps[da]? = act.tmps[da]? → wpAny E.P .any ops Q fuel (listed.setIfInBounds j true) a' w') | x => Q x a' w') (stepO E callK n ops o f S) := by
          rw [hst2]
          rcases hb with ⟨hl, x, hv, hd, hrun⟩ | ⟨hl, ⟨x, S', hv, hd, hall, hrun⟩ | ⟨x, S', hv, hRp⟩⟩
          · rw [stepR_look hl, hv]
            simp only
            rw [putA_eq, if_pos hd]
            exact fun γ' act' w' k1 k2 k3 k6 => next _ _ γ' act' w' k1 k2 k3 (hfb.put ho x) (dset x) k6 hrun
          · rw [hv]
            simp only
            rw [putA_eq, if_pos hd]
            exact fun γ' act' w' k1 k2 k3 k6 => next _ _ γ' act' w' k1 k2 k3 (hfb.put ho x) (dset x) k6 hrun
          · rw [hv]
            intro γ' act' w' k1 k2 k3 v hvr
            exact hpan x S' hRp γ' act' w' k1 (hx.trans k2) (hfb.ar k3) v hvr
        have := stepO_sound (K := fun a' w' => a'.tmps[da]? = act.tmps[da]? → wpAny E.P .any ops Q fuel (listed.setIfInBounds j true) a' w') hE hC hS ha hg key
        unfold wpOp
        rw [ho]
        simp only
        split
        · rename_i hw; rw [if_pos hw] at this; exact .inl (wp_keep hdo this)
        · rename_i hw; rw [if_neg hw] at this; exact this (put_keep hdo)
      · -- the new variable
        subst hja
        rw [hoa] at ho; injection ho with ho; subst ho
        have hs0 : st = none := by
          cases hq : st with
          | none => rfl
          | some b => rw [hq] at hst; rw [hst.2 rfl] at hun; cases hun
        subst hs0
        unfold wpOp
        rw [hoa]
        simp only
        have hw : Region.wanted oa (yielded ops act.tmps) = true := by unfold Region.wanted; rw [hgd]
        rw [if_pos hw]
        refine .inl ?_
        unfold Oper.wp
        rw [alloc_run hop hi hz w, Oper.upon_value]
        obtain ⟨a1, a2⟩ := hS.allocIm z.cells e 0 (Nat.zero_le _)
        have hev := ev_alloc γ w (.cells z.cells e)
        have hex := Ext.alloc (γ := γ) (S := S) (w := w) (.cells z.cells e)
        have hS2 : SR base w0 γ S (w.alloc (.cells z.cells e)) := by
          refine ⟨a1.below, a1.hbase, fun b o hi => a1.imc b o (.inl hi), a1.fresh, a1.pos, a1.inb, fun id c e => ?_, a1.inj⟩
          obtain ⟨b, s, l1, l2, l3⟩ := hS.live id c e
          exact ⟨b, s, l1, l2, l3.keep hev (Below.heap_alloc w _ _ (hS.inb id b s l1)) (fun _ h => h)⟩
        have hput : (act.put oa.dst (.pointer (some ⟨w.heap.size, 0, none⟩))).tmps = act.tmps.setIfInBounds da (.pointer (some ⟨w.heap.size, 0, none⟩)) := by rw [hda]; rfl
        have hdf : (act.put oa.dst (.pointer (some ⟨w.heap.size, 0, none⟩))).defers = act.defers := by rw [hda]; rfl
        refine ih rem (some w.heap.size) (listed.setIfInBounds j true) f S γ _ _ (by simpa using hsz) (fun k => ?_) hnd (fun p hp' hlt => ?_) ?_ (by simp at hlen ⊢; omega) dn' hp hS2 (hx.trans hex) ?_ (hg.mono hev) hfb hfd ?_ hR
        · rw [hrem k, lists]
          by_cases hjk : j = k
          · subst hjk; simp [hap]
          · rw [if_neg hjk]
        · rw [lists, if_neg (fun e => by subst e; exact hjp hp')]; exact hpl p hp' hlt
        · rw [lists, if_pos rfl]; simp
        · refine ⟨fun t x ht => ?_, by rw [hput]; simpa using ha.size, by rw [hdf]; exact ha.dfr.mono hev⟩
          obtain ⟨q1, q2⟩ := ha.tmps t x ht
          have hne2 : t ≠ da := fun e => by subst e; rw [hfd] at ht; cases ht
          rw [hput]
          refine ⟨by simpa using q1, ?_⟩
          have e1 : (act.tmps.setIfInBounds da (.pointer (some ⟨w.heap.size, 0, none⟩))).getD t undef = act.tmps.getD t undef := by
            rw [Array.getD_eq_getD_getElem?, Array.getElem?_setIfInBounds_ne (fun e => hne2 e.symm), ← Array.getD_eq_getD_getElem?]
          rw [e1]; exact q2.mono hev
        · intro b hb
          injection hb with hb; subst hb
          refine ⟨?_, heap_alloc_new w _, hx.size, by simp, fun id c s hm hl => ?_, fun o ho => ?_⟩
          · rw [hput]; exact Array.getElem?_setIfInBounds_self_of_lt (by rw [ha.size]; exact hdn0)
          · have := hS.inb id _ _ hl; omega
          · have := imc_lt hS ho; omega
      · exact absurd h hjp
end
end Go.Ax
