/-
  Regions whose order is drawn, in whatever order: what the abstract run says.
-/
import Derived.Test.YtoocolbgoaaeaaaQNa
noncomputable section
namespace Go.Ax
open Go.RowKit
set_option linter.unusedVariables false
set_option linter.unusedSimpArgs false
/-- Who must come ahead of an operation, as bits, by what is known of those ahead of it. -/
def maskOf (ms : List Nat) (o : Oper) : Nat := o.after.toList.foldl (fun m e => if Region.binds .any e then m ||| (2 ^ e.on ||| ms.getD e.on 0) else m) 0
def bm : List Oper → List Nat → List Nat
  | [], acc => acc
  | o :: r, acc => bm r (acc ++ [maskOf acc o])
def nodupB : List Nat → Bool
  | [] => true
  | x :: r => !r.contains x && nodupB r
theorem nodupB_nodup : ∀ {l : List Nat}, nodupB l = true → l.Nodup
  | [], _ => List.nodup_nil
  | x :: r, h => by
    unfold nodupB at h
    simp at h
    exact List.nodup_cons.2 ⟨h.1, nodupB_nodup h.2⟩
/-- Each mask is what it should be, and nobody waits for one that stands behind. -/
def masksOk (ms : List Nat) : List Oper → Nat → Bool
  | [], _ => true
  | o :: r, i => (ms.getD i 0 == maskOf ms o) && (o.after.toList.all fun e => !Region.binds .any e || decide (e.on < i)) && masksOk ms r (i + 1)
theorem masksOk_at {ms : List Nat} : ∀ {l : List Oper} {i : Nat}, masksOk ms l i = true → ∀ {k : Nat} {o : Oper}, l[k]? = some o → ms.getD (i + k) 0 = maskOf ms o ∧ ∀ e ∈ o.after, Region.binds .any e = true → e.on < i + k
  | [], _, _, k, o, hk => by simp at hk
  | x :: r, i, h, k, o, hk => by
    unfold masksOk at h
    simp only [Bool.and_eq_true, beq_iff_eq] at h
    cases k with
    | zero =>
      simp at hk; subst hk
      refine ⟨h.1.1, fun e he hb => ?_⟩
      have := List.all_eq_true.1 h.1.2 e (by simpa using he)
      simpa [hb] using this
    | succ k =>
      have := masksOk_at (l := r) h.2 (k := k) (by simpa using hk)
      rwa [show i + 1 + k = i + (k + 1) by omega] at this
theorem foldl_or (b : Edge → Bool) (g : Edge → Nat) (j : Nat) : ∀ (l : List Edge) (m : Nat), (l.foldl (fun m e => if b e then m ||| g e else m) m).testBit j = true → m.testBit j = true ∨ ∃ e ∈ l, b e = true ∧ (g e).testBit j = true
  | [], m, h => .inl h
  | e :: r, m, h => by
    rw [List.foldl_cons] at h
    rcases foldl_or b g j r _ h with h1 | ⟨e', he', h2⟩
    · split at h1
      · rename_i hb
        rw [Nat.testBit_or, Bool.or_eq_true] at h1
        rcases h1 with h1 | h1
        · exact .inl h1
        · exact .inr ⟨e, List.mem_cons_self .., hb, h1⟩
      · exact .inl h1
    · exact .inr ⟨e', List.mem_cons_of_mem _ he', h2⟩
section
variable {E : Env} {callK : CallK} {n : Nat} {ops : Array Oper} {ms : List Nat}
def Dn (ops : Array Oper) (listed : Array Bool) : Prop := ∀ i o, ops[i]? = some o → listed.getD i false = true → ∀ e ∈ o.after, Region.binds .any e = true → listed.getD e.on false = true
theorem bit_listed (hm : masksOk ms ops.toList 0 = true) {listed : Array Bool} (hd : Dn ops listed) {j : Nat} : ∀ (k : Nat) (o : Oper), ops[k]? = some o → (∀ e ∈ o.after, Region.binds .any e = true → listed.getD e.on false = true) → (ms.getD k 0).testBit j = true → listed.getD j false = true := by
  intro k
  induction k using Nat.strongRecOn with
  | _ k ih =>
    intro o ho hp hb
    have hk := masksOk_at hm (k := k) (o := o) (by simpa using ho)
    rw [Nat.zero_add] at hk
    rw [hk.1] at hb
    unfold maskOf at hb
    rcases foldl_or _ _ j _ _ hb with h0 | ⟨e, he, hbd, hbit⟩
    · simp at h0
    · have hem : e ∈ o.after := by simpa using he
      have hl := hp e hem hbd
      rw [Nat.testBit_or, Bool.or_eq_true] at hbit
      rcases hbit with hbit | hbit
      · rw [Nat.testBit_two_pow] at hbit
        have : e.on = j := by simpa using hbit
        rw [← this]; exact hl
      · have hlt := hk.2 e hem hbd
        cases hoe : ops[e.on]? with
        | none =>
          have hlt2 : ¬ e.on < ops.size := fun h => by rw [Array.getElem?_eq_getElem h] at hoe; cases hoe
          have hkl : k < ops.size := (Array.getElem?_eq_some_iff.1 ho).1
          omega
        | some oe => exact ih e.on hlt oe hoe (hd e.on oe hoe hl) hbit
structure FbOk (ops : Array Oper) (fb f : Fr) : Prop where
  sub : ∀ t a, fb.tmps.get t = some a → f.tmps.get t = some a
  dfr : fb.dfr = f.dfr
  non : ∀ (i : Nat) o d, ops[i]? = some o → o.dst = some d → fb.tmps.get d = none
theorem FbOk.put {fb f : Fr} (h : FbOk ops fb f) {i : Nat} {o : Oper} (ho : ops[i]? = some o) (a : AV) : FbOk ops fb (putT f o.dst a) := by
  unfold putT
  split
  · exact h
  · rename_i d hd
    refine ⟨fun t x hx => ?_, h.dfr, h.non⟩
    show (f.tmps.set d (some a)).get t = some x
    rw [T.get_set, if_neg (fun e => by subst e; rw [h.non i o _ ho hd] at hx; cases hx)]
    exact h.sub t x hx
theorem FbOk.ar {fb f : Fr} (h : FbOk ops fb f) {γ : Gh} {w : World} {act : Act} (ha : AR γ w n f act) : AR γ w n fb act :=
  ⟨fun t a hta => ha.tmps t a (h.sub t a hta), ha.size, by rw [h.dfr]; exact ha.dfr⟩
theorem getD_put (listed : Array Bool) (i j : Nat) (b : Bool) (hi : i < listed.size) : (listed.setIfInBounds i true).getD j b = if i = j then true else listed.getD j b := by
  rw [Array.getD_eq_getD_getElem?, Array.getD_eq_getD_getElem?]
  by_cases h : i = j
  · subst h; simp [hi]
  · rw [Array.getElem?_setIfInBounds_ne h, if_neg h]
theorem getD_same {listed : Array Bool} {i : Nat} (hi : i < listed.size) (b c : Bool) : listed.getD i b = listed.getD i c := by
  simp [Array.getD_eq_getD_getElem?, hi]
theorem drawn_any {base : Nat} {w0 : World} {Q : Exit → Act → World → Prop} (hE : E.Ok) (hC : CallOk E base w0 callK) (hm : masksOk ms ops.toList 0 = true) {fb : Fr} : ∀ (fuel : Nat) (rem : List Nat) (listed : Array Bool) (f : Fr) (S : St) (γ : Gh) (w : World) (act : Act),
    listed.size = ops.size → (∀ i, i ∈ rem ↔ i < ops.size ∧ listed.getD i true = false) → rem.Nodup → rem.length ≤ fuel → Dn ops listed → pairsOk ops ms rem = true → SR base w0 γ S w → AR γ w n f act → GR γ w E.G → FbOk ops fb f →
    Holds base w0 n γ S w Q (drun E callK n ops ms fb rem f S []) → wpAny E.P .any ops Q fuel listed act w := by
  intro fuel
  induction fuel with
  | zero =>
    intro rem listed f S γ w act hsz hrem hnd hlen hdn hp hS ha hg hfb hH
    have hr0 : rem = [] := List.eq_nil_of_length_eq_zero (by omega)
    subst hr0
    refine ⟨?_, hH γ act w hS (.refl _ _ _) ha⟩
    rw [List.eq_nil_iff_forall_not_mem]
    intro i hi
    obtain ⟨h1, o, ho, _⟩ := mem_ready.1 hi
    exact absurd ((hrem i).2 ⟨(Array.getElem?_eq_some_iff.1 ho).1, h1⟩) (by simp)
  | succ fuel ih =>
    intro rem listed f S γ w act hsz hrem hnd hlen hdn hp hS ha hg hfb hH
    have inb : ∀ {i}, i ∈ rem → i < listed.size := fun {i} hi => by rw [hsz]; exact ((hrem i).1 hi).1
    refine ⟨fun hready => ?_, fun i hi => ?_⟩
    · -- nobody may come up: all have come up
      have hr0 : rem = [] := by
        rw [List.eq_nil_iff_forall_not_mem]
        intro i
        induction i using Nat.strongRecOn with
        | _ i ihi =>
          intro hi
          obtain ⟨hlt, hun⟩ := (hrem i).1 hi
          have hoi : ops[i]? = some ops[i] := Array.getElem?_eq_getElem hlt
          have hk := masksOk_at hm (k := i) (o := ops[i]) (by simp [hlt])
          have : i ∈ Region.ready .any ops listed := mem_ready.2 ⟨hun, ops[i], hoi, fun e he hb => by
            have hel := hk.2 e he hb
            rw [Nat.zero_add] at hel
            have hnr := ihi e.on hel
            rw [hrem] at hnr
            have hes : e.on < listed.size := by omega
            cases hx : listed.getD e.on false with
            | true => rfl
            | false => exact absurd ⟨by omega, (getD_same hes true false).trans hx⟩ hnr⟩
          rw [hready] at this
          cases this
      subst hr0
      exact hH γ act w hS (.refl _ _ _) ha
    · obtain ⟨hun, o, ho, hpre⟩ := mem_ready.1 hi
      have hil : i < ops.size := (Array.getElem?_eq_some_iff.1 ho).1
      have hir : i ∈ rem := (hrem i).2 ⟨hil, hun⟩
      have hne : drun E callK n ops ms fb rem f S [] ≠ .fail := fun e => by rw [e] at hH; exact hH
      have hfree : ∀ j ∈ rem, j ≠ i → (ms.getD i 0).testBit j = false := fun j hj _ => by
        cases hb : (ms.getD i 0).testBit j with
        | false => rfl
        | true =>
          have h1 := bit_listed hm hdn i o ho hpre hb
          have h2 := ((hrem j).1 hj).2
          rw [getD_same (inb hj) true false, h1] at h2
          cases h2
      have hb := bubble ho rem f S [] _ hir hfree hp rfl hne
      -- the state behind it
      have next : ∀ (f' : Fr) (S' : St) (γ' : Gh) (act' : Act) (w' : World), SR base w0 γ' S' w' → Ext γ S w γ' S' w' → AR γ' w' n f' act' → FbOk ops fb f' → drun E callK n ops ms fb (rem.erase i) f' S' [] = drun E callK n ops ms fb rem f S [] →
          wpAny E.P .any ops Q fuel (listed.setIfInBounds i true) act' w' := fun f' S' γ' act' w' k1 k2 k3 k4 k5 => by
        refine ih (rem.erase i) (listed.setIfInBounds i true) f' S' γ' w' act' (by simpa using hsz) (fun j => ?_) (hnd.erase i) (by rw [List.length_erase_of_mem hir]; omega) (fun j oj hoj hlj e he hbd => ?_) ?_ k1 k3 (hg.mono k2.ev) k4 (by rw [k5]; exact hH.later k2)
        · rw [hnd.mem_erase_iff, hrem j, getD_put _ _ _ _ (by omega)]
          by_cases hji : i = j
          · subst hji; simp
          · rw [if_neg hji]; exact ⟨fun h => h.2, fun h => ⟨fun e => hji e.symm, h⟩⟩
        · rw [getD_put _ _ _ _ (by omega)] at hlj ⊢
          split
          · rfl
          · split at hlj
            · rename_i hij
              subst hij
              rw [ho] at hoj; injection hoj with hoj; subst hoj
              exact hpre e he hbd
            · exact hdn j oj hoj hlj e he hbd
        · have sub : ∀ (l : List Nat), pairsOk ops ms l = true → pairsOk ops ms (l.erase i) = true := by
            intro l
            induction l with
            | nil => intro h; exact h
            | cons x r ihl =>
              intro h
              unfold pairsOk at h
              rw [Bool.and_eq_true] at h
              by_cases hx : x = i
              · subst hx; rw [List.erase_cons_head]; exact h.2
              · rw [List.erase_cons_tail (by simpa using hx)]
                unfold pairsOk
                rw [Bool.and_eq_true]
                exact ⟨List.all_eq_true.2 fun y hy => List.all_eq_true.1 h.1 y (List.mem_of_mem_erase hy), ihl h.2⟩
          exact sub rem hp
      have hst := stepO_eq (E := E) (callK := callK) (n := n) (ops := ops) o f S
      have key : Holds base w0 n γ S w (fun x a w => match x with | .normal => wpAny E.P .any ops Q fuel (listed.setIfInBounds i true) a w | x => Q x a w) (stepO E callK n ops o f S) := by
        rw [hst]
        rcases hb with ⟨hl, a, hv, hd, hrun⟩ | ⟨hl, ⟨a, S', hv, hd, hall, hrun⟩ | ⟨a, S', hv, hR⟩⟩
        · rw [stepR_look hl, hv]
          simp only
          rw [putA_eq, if_pos hd]
          exact fun γ' act' w' k1 k2 k3 => next _ _ γ' act' w' k1 k2 k3 (hfb.put ho a) hrun
        · rw [hv]
          simp only
          rw [putA_eq, if_pos hd]
          exact fun γ' act' w' k1 k2 k3 => next _ _ γ' act' w' k1 k2 k3 (hfb.put ho a) hrun
        · rw [hv]
          intro γ' act' w' k1 k2 k3 v hvr
          rw [hR] at hH
          exact hH γ' act' w' k1 k2 (hfb.ar k3) v hvr
      have := stepO_sound hE hC hS ha hg key
      unfold wpOp
      rw [ho]
      simp only
      split
      · rename_i hw; rw [if_pos hw] at this; exact .inl this
      · rename_i hw; rw [if_neg hw] at this; exact this
/-- An order: what leaves the state as it is comes up as soon as it may. -/
def eager (ops : Array Oper) (ms : List Nat) : Nat → List Nat → Nat → List Nat
  | 0, _, _ => []
  | k + 1, rem, done =>
    match rem.find? fun i => (match ops[i]? with | some o => isLook o | none => false) && (ms.getD i 0 &&& done == ms.getD i 0) with
    | some i => i :: eager ops ms k (rem.erase i) (done ||| 2 ^ i)
    | none => match rem.find? fun i => ms.getD i 0 &&& done == ms.getD i 0 with
      | some i => i :: eager ops ms k (rem.erase i) (done ||| 2 ^ i)
      | none => []
def static (ops : Array Oper) (ms order : List Nat) : Bool :=
  masksOk ms ops.toList 0 && nodupB order && (order.all fun i => decide (i < ops.size)) && ((List.range ops.size).all fun i => order.contains i) && pairsOk ops ms order
def eraseT : List Oper → T AV → T AV
  | [], f => f
  | o :: r, f => eraseT r (match o.dst with | some d => f.set d none | none => f)
theorem eraseT_sub : ∀ (l : List Oper) (f : T AV) (t : Nat) (a : AV), (eraseT l f).get t = some a → f.get t = some a ∧ ∀ o ∈ l, o.dst ≠ some t
  | [], f, t, a, h => ⟨h, fun _ h => by cases h⟩
  | o :: r, f, t, a, h => by
    unfold eraseT at h
    obtain ⟨h1, h2⟩ := eraseT_sub r _ t a h
    split at h1
    · rename_i d hd
      rw [T.get_set] at h1
      split at h1
      · cases h1
      · rename_i hne
        refine ⟨h1, fun o' ho' => ?_⟩
        rcases List.mem_cons.1 ho' with rfl | ho'
        · rw [hd]; intro e; injection e with e; exact hne e.symm
        · exact h2 o' ho'
    · rename_i hd
      refine ⟨h1, fun o' ho' => ?_⟩
      rcases List.mem_cons.1 ho' with rfl | ho'
      · rw [hd]; intro e; cases e
      · exact h2 o' ho'
def drawnRun (E : Env) : Drawn := fun callK n ops f S =>
  let ms := bm ops.toList []
  let order := eager ops ms ops.size (List.range ops.size) 0
  if static ops ms order then drun E callK n ops ms ⟨eraseT ops.toList f.tmps, f.dfr⟩ order f S [] else .fail
theorem drawnRun_ok (hE : E.Ok) (hmix : E.P.follows .mixedOrders = true) : DrawnOk E (drawnRun E) := by
  intro base w0 Q callK hC n id ops γ S w f act hS ha hg hH
  unfold drawnRun at hH
  simp only at hH
  split at hH
  · rename_i hst
    generalize bm ops.toList [] = ms at hst hH
    generalize eager ops ms ops.size (List.range ops.size) 0 = order at hst hH
    unfold static at hst
    simp only [Bool.and_eq_true] at hst
    obtain ⟨⟨⟨⟨s1, s2⟩, s3⟩, s4⟩, s5⟩ := hst
    obtain ⟨d1, d2⟩ := hS.drew
    have hx : Ext γ S w γ S w.drew := Ext.of_same (w := w) (w' := w.drew) rfl d2
    refine wp_region_any hmix ?_
    have hlist : ∀ (i : Nat) (b : Bool), i < ops.size → (Array.replicate ops.size false).getD i b = false := fun i b h => by simp [h]
    refine drawn_any hE hC s1 (fb := ⟨eraseT ops.toList f.tmps, f.dfr⟩) ops.size order (Array.replicate ops.size false) f S γ w.drew act (by simp) (fun i => ⟨fun hi => ?_, fun hi => ?_⟩) (nodupB_nodup s2) ?_ (fun i o ho hl => ?_) s5 d1 (ha.mono d2) (hg.mono d2) ⟨fun t a h => (eraseT_sub _ _ t a h).1, rfl, fun i o d ho hd => ?_⟩ (hH.later hx)
    · have := List.all_eq_true.1 s3 i hi
      have hlt : i < ops.size := by simpa using this
      exact ⟨hlt, hlist i true hlt⟩
    · have := List.all_eq_true.1 s4 i (List.mem_range.2 hi.1)
      simpa using this
    · have hsub : order ⊆ List.range ops.size := fun i hi => by
        have := List.all_eq_true.1 s3 i hi
        exact List.mem_range.2 (by simpa using this)
      have := (nodupB_nodup s2).length_le_of_subset hsub
      simpa using this
    · have hlt := (Array.getElem?_eq_some_iff.1 ho).1
      rw [hlist i false hlt] at hl
      cases hl
    · cases hx : (eraseT ops.toList f.tmps).get d with
      | none => rfl
      | some a =>
        have := (eraseT_sub _ _ d a hx).2 o (by
          have := Array.mem_of_getElem? ho
          simpa using this)
        exact absurd hd this
  · exact hH.elim
end
end Go.Ax
noncomputable section
namespace Go.Ax
open Go.RowKit
set_option linter.unusedVariables false
set_option linter.unusedSimpArgs false

/-- Regions whose order is drawn, where nothing need be looked at again. -/
def isDfr (o : Oper) : Bool := match o.op with
  | .defer _ => true
  | _ => false
def fixX (fb : Fr) (r : O) : O := O.rec (motive := fun _ => O) (fun e f S => Ex.rec (motive := fun _ => O) (.out .normal f S) (fun i => .out (.exit i) f S) (.out .ret f S) (fun a => .out (.pan a) fb S) e) .fail r
theorem exec1_dfr {E : Env} {f : T AV} {S S' : St} {o : Oper} {fn : Fn} {caps args : List AV} (h : exec1 E f S o = .dfr fn caps args S') : isDfr o = true := by
  have key : ∀ (x : OR), x = .dfr fn caps args S' → (∃ a, x = ofOpt S a) ∨ x = .fail ∨ (∃ a, x = ofOptS a) ∨ x = ground E.P E.G f S o ∨ (∃ a S, x = .val a S) ∨ (∃ S, x = .skip S) ∨ (∃ k l S, x = .enter k l S) ∨ (∃ a S, x = .pan a S) → False := by
    rintro x hx (⟨a, rfl⟩ | rfl | ⟨a, rfl⟩ | rfl | ⟨a, S2, rfl⟩ | ⟨S2, rfl⟩ | ⟨k, l, S2, rfl⟩ | ⟨a, S2, rfl⟩)
    · cases a <;> cases hx
    · cases hx
    · cases a with
      | none => cases hx
      | some q => cases q; cases hx
    · rcases ground_ne (P := E.P) (G := E.G) (f := f) (S := S) (o := o) with ⟨a, ha⟩ | ha <;> rw [ha] at hx <;> cases hx
    · cases hx
    · cases hx
    · cases hx
    · cases hx
  unfold isDfr
  split
  · rfl
  · rename_i hne
    exfalso
    refine key _ h ?_
    unfold exec1
    split
    all_goals first
      | (rename_i c ho; exact absurd ho (hne c))
      | skip
    all_goals try unfold callA
    all_goals repeat' split
    all_goals try unfold eqOr
    all_goals repeat' split
    all_goals first
      | exact .inl ⟨_, rfl⟩
      | exact .inr (.inl rfl)
      | exact .inr (.inr (.inl ⟨_, rfl⟩))
      | exact .inr (.inr (.inr (.inl rfl)))
      | exact .inr (.inr (.inr (.inr (.inl ⟨_, _, rfl⟩))))
      | exact .inr (.inr (.inr (.inr (.inr (.inl ⟨_, rfl⟩)))))
      | exact .inr (.inr (.inr (.inr (.inr (.inr (.inl ⟨_, _, _, rfl⟩))))))
      | exact .inr (.inr (.inr (.inr (.inr (.inr (.inr ⟨_, _, rfl⟩))))))
/-- Steps of a region: an operation, or that what was seen is still so. -/
inductive RS where
  | op (o : Oper)
  | re (o : Oper)
def okAp (ops : Array Oper) (o : Oper) (p : Oper) : Bool := match o.dst with
  | none => true
  | some d => !(p.looksAt ops).contains d && !(p.dst == some d)
def selfAp (ops : Array Oper) (o : Oper) : Bool := match o.dst with
  | none => false
  | some d => !(o.looksAt ops).contains d
def keepsD (ops : Array Oper) (o : Oper) (lk : List (Nat × Oper)) : Bool := lk.all fun p => pureO p.2 || okAp ops o p.2
def againD (m : Nat) (lk : List (Nat × Oper)) : List (Nat × Oper) := lk.filter fun p => !m.testBit p.1 && !pureO p.2
def stepsD (ops : Array Oper) (ms : List Nat) : List Nat → List (Nat × Oper) → Option (List RS)
  | [], _ => some []
  | i :: r, lk => match ops[i]? with
    | none => none
    | some o => if keepsD ops o lk then
        if isLook o then (if pureO o || selfAp ops o then (match stepsD ops ms r ((i, o) :: lk) with
          | some l => some (.op o :: l)
          | none => none) else none)
        else if isDfr o then none else (match stepsD ops ms r lk with
          | some l => some (.op o :: ((againD (ms.getD i 0) lk).map fun p => RS.re p.2) ++ l)
          | none => none)
      else none
/-- What was seen is still so. -/
def againO (E : Env) (ops : Array Oper) (o : Oper) (f : T AV) (S : St) : Bool := match lookV E ops o f S, o.dst with
  | some a, some d => match f.get d with
    | some b => beqA b a
    | none => false
  | _, _ => false
def runRS (E : Env) (ck : CallK) (n : Nat) (ops : Array Oper) : List RS → Fr → St → O
  | [], f, S => .out .normal f S
  | .op o :: r, f, S => match stepO E ck n ops o f S with
    | .out .normal f' S' => runRS E ck n ops r f' S'
    | r => r
  | .re o :: r, f, S => if againO E ops o f.tmps S then runRS E ck n ops r f S else .fail
theorem runRS_re {E : Env} {ck : CallK} {n : Nat} {ops : Array Oper} (r : List RS) (f : Fr) (S : St) : ∀ (l : List (Nat × Oper)), runRS E ck n ops ((l.map fun p => RS.re p.2) ++ r) f S = .fail ∨ ((∀ p ∈ l, againO E ops p.2 f.tmps S = true) ∧ runRS E ck n ops ((l.map fun p => RS.re p.2) ++ r) f S = runRS E ck n ops r f S)
  | [] => .inr ⟨fun _ h => absurd h List.not_mem_nil, rfl⟩
  | p :: l => by
    have e : ∀ l f S, runRS E ck n ops (.re p.2 :: l) f S = if againO E ops p.2 f.tmps S then runRS E ck n ops l f S else .fail := fun _ _ _ => rfl
    rw [List.map_cons, List.cons_append, e]
    cases h : againO E ops p.2 f.tmps S with
    | false => exact .inl rfl
    | true =>
      rw [if_pos rfl]
      rcases runRS_re r f S l with h1 | ⟨h1, h2⟩
      · exact .inl h1
      · refine .inr ⟨fun q hq => ?_, h2⟩
        rcases List.mem_cons.1 hq with rfl | hq
        · exact h
        · exact h1 q hq
def Seen (ops : Array Oper) (f : T AV) (l : Look) : Prop := pureO l.o = true ∨ (agree ops l.o l.f f ∧ ∃ d, l.o.dst = some d ∧ f.get d = some l.a)
theorem Seen.put {ops : Array Oper} {f : Fr} {l : Look} (h : Seen ops f.tmps l) {o : Oper} (ho : pureO l.o = true ∨ okAp ops o l.o = true) (a : AV) : Seen ops (putT f o.dst a).tmps l := by
  rcases h with h | ⟨h1, d, h2, h3⟩
  · exact .inl h
  · rcases ho with ho | ho
    · exact .inl ho
    · refine .inr ?_
      unfold okAp at ho
      cases hd : o.dst with
      | none => exact ⟨h1, d, h2, h3⟩
      | some x =>
        rw [hd] at ho
        simp only [Bool.and_eq_true, Bool.not_eq_true'] at ho
        obtain ⟨k1, k2⟩ := ho
        refine ⟨fun t ht => ?_, d, h2, ?_⟩
        · show l.f.get t = (f.tmps.set x (some a)).get t
          rw [T.get_set, if_neg (fun e => by subst e; rw [List.contains_eq_mem, decide_eq_false_iff_not] at k1; exact k1 ht)]
          exact h1 t ht
        · show (f.tmps.set x (some a)).get d = some l.a
          rw [T.get_set, if_neg (fun e => by subst e; rw [h2] at k2; simp at k2)]
          exact h3
theorem drun_steps {E : Env} {ck : CallK} {n : Nat} {ops : Array Oper} {ms : List Nat} {fb : Fr} : ∀ (l : List Nat) (rs : List RS) (f : Fr) (S : St) (L : List Look), stepsD ops ms l (L.map fun l => (l.idx, l.o)) = some rs → (∀ l ∈ L, Seen ops f.tmps l) → runRS E ck n ops rs f S = .fail ∨ drun E ck n ops ms fb l f S L = fixX fb (runRS E ck n ops rs f S)
  | [], rs, f, S, L, h, hL => by
    injection h with h; subst h
    refine .inr ?_
    unfold drun; rfl
  | i :: r, rs, f, S, L, h, hL => by
    unfold stepsD at h
    split at h
    · cases h
    · rename_i o ho
      split at h
      case isFalse => cases h
      rename_i hk
      have hkeep : ∀ l ∈ L, pureO l.o = true ∨ okAp ops o l.o = true := fun l hl => by
        have := List.all_eq_true.1 hk (l.idx, l.o) (List.mem_map.2 ⟨l, hl, rfl⟩)
        simpa using this
      split at h
      · rename_i hl
        split at h
        case isFalse => cases h
        rename_i hself
        split at h
        case h_2 => cases h
        rename_i l2 hl2
        injection h with h; subst h
        unfold drun runRS
        rw [ho]
        simp only
        rw [if_pos hl, stepO_eq, stepR_look hl]
        cases hv : lookV E ops o f.tmps S with
        | none => exact .inl rfl
        | some a =>
          simp only
          rw [putA_eq]
          cases hd : okD n o.dst with
          | false => exact .inl rfl
          | true =>
            refine drun_steps r l2 (putT f o.dst a) S (⟨i, o, f.tmps, a⟩ :: L) hl2 fun l hl => ?_
            rcases List.mem_cons.1 hl with rfl | hl
            · rw [Bool.or_eq_true] at hself
              rcases hself with hself | hself
              · exact .inl hself
              · refine .inr ?_
                unfold selfAp at hself
                cases hd2 : o.dst with
                | none => rw [hd2] at hself; cases hself
                | some d =>
                  rw [hd2] at hself
                  refine ⟨fun t ht => ?_, d, rfl, ?_⟩
                  · show f.tmps.get t = (f.tmps.set d (some a)).get t
                    rw [T.get_set, if_neg (fun e => by subst e; rw [Bool.not_eq_true', List.contains_eq_mem, decide_eq_false_iff_not] at hself; exact hself ht)]
                  · show (f.tmps.set d (some a)).get d = some a
                    rw [T.get_set, if_pos rfl]
            · exact (hL l hl).put (hkeep l hl) a
      · rename_i hl
        split at h
        · cases h
        rename_i hdf
        split at h
        case h_2 => cases h
        rename_i l2 hl2
        injection h with h; subst h
        have e1 : ∀ f S, runRS E ck n ops (.op o :: ((againD (ms.getD i 0) (L.map fun l => (l.idx, l.o))).map fun p => RS.re p.2) ++ l2) f S = match stepO E ck n ops o f S with
          | .out .normal f' S' => runRS E ck n ops (((againD (ms.getD i 0) (L.map fun l => (l.idx, l.o))).map fun p => RS.re p.2) ++ l2) f' S'
          | r => r := fun _ _ => rfl
        rw [e1]
        unfold drun
        rw [ho]
        simp only
        rw [if_neg hl, stepO_eq]
        cases hs : stepR E ck ops o f.tmps S with
        | val a S' =>
          simp only
          rw [putA_eq]
          cases hd : okD n o.dst with
          | false => exact .inl rfl
          | true =>
            rw [if_pos rfl]
            simp only
            have hseen : ∀ l ∈ L, Seen ops (putT f o.dst a).tmps l := fun l hl => (hL l hl).put (hkeep l hl) a
            rcases runRS_re (E := E) (ck := ck) (n := n) (ops := ops) l2 (putT f o.dst a) S' (againD (ms.getD i 0) (L.map fun l => (l.idx, l.o))) with h1 | ⟨h1, h2⟩
            · exact .inl h1
            · rw [h2]
              have hall : L.all (recheck E ops (ms.getD i 0) S') = true := by
                rw [List.all_eq_true]
                intro l hl
                unfold recheck
                cases hb : (ms.getD i 0).testBit l.idx with
                | true => rfl
                | false =>
                  cases hp : pureO l.o with
                  | true => rfl
                  | false =>
                    have hag := h1 (l.idx, l.o) (by unfold againD; rw [List.mem_filter]; exact ⟨List.mem_map.2 ⟨l, hl, rfl⟩, by simp only [hb, hp]; rfl⟩)
                    rcases hseen l hl with h3 | ⟨h3, d, h4, h5⟩
                    · rw [hp] at h3; cases h3
                    · unfold againO at hag
                      rw [lookV_congr (S := S') h3]
                      simp only at hag
                      split at hag
                      · rename_i a2 d2 hv hd2
                        rw [h4] at hd2; injection hd2 with hd2; subst hd2
                        rw [h5] at hag
                        rw [hv]
                        exact hag
                      · cases hag
              rw [hall, Bool.true_and, if_pos rfl]
              exact drun_steps r l2 (putT f o.dst a) S' L hl2 hseen
        | dfr d S' =>
          exfalso
          unfold stepR at hs
          split at hs
          · cases hs
          · cases hs
          · split at hs
            · cases hs
            · cases hs
            · split at hs <;> cases hs
            · rename_i he
              exact hdf (exec1_dfr he)
            · cases hs
            · cases hs
        | pan a S' => exact .inr rfl
        | fail => exact .inl rfl
theorem runRS_append {E : Env} {ck : CallK} {n : Nat} {ops : Array Oper} : ∀ (l m : List RS) (f : Fr) (S : St), runRS E ck n ops (l ++ m) f S = match runRS E ck n ops l f S with
    | .out .normal f' S' => runRS E ck n ops m f' S'
    | r => r
  | [], m, f, S => rfl
  | .op o :: r, m, f, S => by
    have e : ∀ l, runRS E ck n ops (.op o :: l) f S = match stepO E ck n ops o f S with
      | .out .normal f' S' => runRS E ck n ops l f' S'
      | r => r := fun _ => rfl
    rw [List.cons_append, e, e]
    cases stepO E ck n ops o f S with
    | fail => rfl
    | out e f' S' => cases e <;> first | exact runRS_append r m f' S' | rfl
  | .re o :: r, m, f, S => by
    have e : ∀ l, runRS E ck n ops (.re o :: l) f S = if againO E ops o f.tmps S then runRS E ck n ops l f S else .fail := fun _ => rfl
    rw [List.cons_append, e, e]
    cases againO E ops o f.tmps S with
    | false => rfl
    | true => exact runRS_append r m f S
end Go.Ax
