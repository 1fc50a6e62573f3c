/-
  A call that was reckoned once, where little else lay in memory, is put in as known where just this lies there: long runs in parts.
-/
import Derived.Test.YtjgknelmjdallaaGreatDoorFdMe
noncomputable section
namespace Go.Ax
open Go.RowKit
set_option linter.unusedVariables false
set_option linter.unusedSimpArgs false
/-- Less may be known. -/
theorem SR.sub {base : Nat} {w0 w : World} {γ : Gh} {S S0 : St} (h : SR base w0 γ S w) (hn : S0.next = S.next) (hs : ∀ id c, S0.mem.get id = some c → S.mem.get id = some c) : SR base w0 γ S0 w ∧ Ext γ S w γ S0 w := by
  refine ⟨⟨h.below, h.hbase, h.imc, fun id hid => ⟨(h.fresh id (by omega)).1, ?_⟩, by have := h.pos; omega, h.inb, fun id c e => h.live id c (hs id c e), fun id id' c c' b s s' e1 e2 => h.inj id id' c c' b s s' (hs _ _ e1) (hs _ _ e2)⟩,
    ⟨.refl _ _, by omega, fun _ _ => rfl, Nat.le_refl _, fun id c b s e l => .inr ⟨id, c, s, hs id c e, l⟩, fun b _ _ => ⟨rfl, fun _ h => h⟩⟩⟩
  cases hq : S0.mem.get id with
  | none => rfl
  | some c => have := hs id c hq; rw [(h.fresh id (by omega)).2] at this; cases this
/-- What a run of a part leaves, beside all that it had nothing to do with. -/
theorem SR.join {base : Nat} {w0 w w' : World} {γ γ' : Gh} {S S0 S1 Sj : St} (h : SR base w0 γ S w) (hn : S0.next = S.next) (hs : ∀ id c, S0.mem.get id = some c → S.mem.get id = some c) (h1 : SR base w0 γ' S1 w') (x : Ext γ S0 w γ' S1 w') (hj : Sj.next = S1.next)
    (hm : ∀ id c, Sj.mem.get id = some c → S1.mem.get id = some c ∨ (S0.mem.get id = none ∧ S.mem.get id = some c)) : SR base w0 γ' Sj w' ∧ Ext γ S w γ' Sj w' := by
  have hlt : ∀ {id c}, S.mem.get id = some c → id < S.next := fun {id c} e => by
    by_cases hq : id < S.next
    · exact hq
    · rw [(h.fresh id (by omega)).2] at e; cases e
  -- a box that the part had nothing to do with
  have old : ∀ id c, S0.mem.get id = none → S.mem.get id = some c → ∃ b s, γ.loc id = some (b, s) ∧ γ'.loc id = some (b, s) ∧ base ≤ b ∧ b < w.heap.size ∧ CellR γ' w' b s c := fun id c e0 e => by
    obtain ⟨b, s, l1, l2, l3⟩ := h.live id c e
    have hfr := x.frame b (h.inb id b s l1) (fun id2 c2 s2 hm2 hl2 => by
      have := h.inj id id2 c c2 b s s2 e (hs _ _ hm2) l1 hl2
      subst this; rw [e0] at hm2; cases hm2)
    exact ⟨b, s, l1, by rw [x.same id (by rw [hn]; exact hlt e)]; exact l1, l2, h.inb id b s l1, l3.keep x.ev hfr.1 hfr.2⟩
  have mixed : ∀ id1 c1 id2 c2 b s1 s2, S1.mem.get id1 = some c1 → S0.mem.get id2 = none → S.mem.get id2 = some c2 → γ'.loc id1 = some (b, s1) → γ'.loc id2 = some (b, s2) → False := fun id1 c1 id2 c2 b s1 s2 e1 e20 e2 l1 l2 => by
    obtain ⟨b', s', k1, k2, k3, k4, k5⟩ := old id2 c2 e20 e2
    rw [k2] at l2; injection l2 with l2; injection l2 with l21 l22
    subst l21
    rcases x.liv id1 c1 b' s1 e1 l1 with hb | ⟨i0, c0, s0, m0, l0⟩
    · omega
    · have := h.inj i0 id2 c0 c2 b' s0 s' (hs _ _ m0) e2 l0 k1
      subst this; rw [e20] at m0; cases m0
  refine ⟨⟨h1.below, h1.hbase, h1.imc, fun id hid => ⟨(h1.fresh id (by omega)).1, ?_⟩, by have := h1.pos; omega, h1.inb, fun id c e => ?_, fun id id' c c' b s s' e1 e2 l1 l2 => ?_⟩,
    ⟨x.ev, by have := x.next; omega, fun id hid => x.same id (by omega), x.size, fun id c b s e l => ?_, fun b hb hnn => x.frame b hb (fun id c s e => hnn id c s (hs _ _ e))⟩⟩
  · cases hq : Sj.mem.get id with
    | none => rfl
    | some c =>
      rcases hm id c hq with e | ⟨_, e⟩
      · rw [(h1.fresh id (by omega)).2] at e; cases e
      · have := hlt e; have := x.next; omega
  · rcases hm id c e with e | ⟨e0, e⟩
    · exact h1.live id c e
    · obtain ⟨b, s, _, k2, k3, _, k5⟩ := old id c e0 e
      exact ⟨b, s, k2, k3, k5⟩
  · rcases hm id c e1 with e1 | ⟨e10, e1⟩
    · rcases hm id' c' e2 with e2 | ⟨e20, e2⟩
      · exact h1.inj id id' c c' b s s' e1 e2 l1 l2
      · exact (mixed id c id' c' b s s' e1 e20 e2 l1 l2).elim
    · rcases hm id' c' e2 with e2 | ⟨e20, e2⟩
      · exact (mixed id' c' id c b s' s e2 e10 e1 l2 l1).elim
      · obtain ⟨b1, t1, p1, p2, _⟩ := old id c e10 e1
        obtain ⟨b2, t2, q1, q2, _⟩ := old id' c' e20 e2
        rw [p2] at l1; rw [q2] at l2
        injection l1 with l1; injection l1 with a1 a2
        injection l2 with l2; injection l2 with b3 b4
        subst a1; subst b3
        exact h.inj id id' c c' b2 t1 t2 e1 e2 p1 q1
  · rcases hm id c e with e | ⟨e0, e⟩
    · rcases x.liv id c b s e l with hb | ⟨i0, c0, s0, m0, l0⟩
      · exact .inl hb
      · exact .inr ⟨i0, c0, s0, hs _ _ m0, l0⟩
    · obtain ⟨b', s', k1, k2, _⟩ := old id c e0 e
      exact .inr ⟨id, c, s, e, by rw [k1, ← k2]; exact l⟩
/- Are values the same? -/
def eqB (s u : ByteArray) : Bool := eqBytes s.data.toList u.data.toList
def eqVal : Value → Value → Bool
  | .bool a, .bool b => a == b
  | .int .i64 a, .int .i64 b => a == b
  | .string a, .string b => eqB a b
  | .nilFunc, .nilFunc => true
  | .nilIface, .nilIface => true
  | _, _ => false
theorem eqVal_eq {a b : Value} (h : eqVal a b = true) : a = b := by
  unfold eqVal at h
  split at h
  · simp at h; rw [h]
  · simp at h; rw [h]
  · unfold eqB at h
    rw [eqBytes_eq] at h
    have := (beq_iff_eq ..).1 h
    rename_i s u
    have e : s = u := by
      cases s with | mk s => cases u with | mk u => 
      congr 1
      exact Array.toList_inj.1 this
    rw [e]
  · rfl
  · rfl
  · cases h
mutual
def eqA : AV → AV → Bool
  | .v x, .v y => eqVal x y
  | .nilp, .nilp => true
  | .nils, .nils => true
  | .nilm, .nilm => true
  | .ptr a b, .ptr c d => Nat.beq a c && Nat.beq b d
  | .ep cs, .ep ds => eqL cs ds
  | .sl t o z es, .sl t' o' z' es' => Nat.beq t t' && Nat.beq o o' && Nat.beq z z' && eqL es es'
  | .map a, .map b => Nat.beq a b
  | .iface t x, .iface t' y => Nat.beq t t' && eqA x y
  | .agg cs, .agg ds => eqL cs ds
  | .tup cs, .tup ds => eqL cs ds
  | .bs a b c d, .bs a' b' c' d' => Nat.beq a a' && Nat.beq b b' && Nat.beq c c' && Nat.beq d d'
  | _, _ => false
def eqL : List AV → List AV → Bool
  | [], [] => true
  | a :: r, b :: l => eqA a b && eqL r l
  | _, _ => false
end
theorem nb {a b : Nat} (h : Nat.beq a b = true) : a = b := Nat.eq_of_beq_eq_true h
mutual
theorem eqA_eq : ∀ {a b : AV}, eqA a b = true → a = b := fun {a b} h => by
  cases a <;> cases b <;> first | (simp [eqA] at h; done) | skip
  all_goals (unfold eqA at h; try simp only [Bool.and_eq_true] at h)
  · rw [eqVal_eq h]
  · rfl
  · rw [nb h.1, nb h.2]
  · rw [eqL_eq h]
  · rfl
  · rw [nb h.1.1.1, nb h.1.1.2, nb h.1.2, eqL_eq h.2]
  · rfl
  · rw [nb h]
  · rw [nb h.1, eqA_eq h.2]
  · rw [eqL_eq h]
  · rw [eqL_eq h]
  · rw [nb h.1.1.1, nb h.1.1.2, nb h.1.2, nb h.2]
theorem eqL_eq : ∀ {a b : List AV}, eqL a b = true → a = b := fun {a b} h => by
  cases a <;> cases b <;> first | rfl | (simp [eqL] at h; done) | skip
  unfold eqL at h
  rw [Bool.and_eq_true] at h
  rw [eqA_eq h.1, eqL_eq h.2]
end
def eqM : List (Value × AV) → List (Value × AV) → Bool
  | [], [] => true
  | a :: r, b :: l => eqVal a.1 b.1 && eqA a.2 b.2 && eqM r l
  | _, _ => false
theorem eqM_eq : ∀ {a b : List (Value × AV)}, eqM a b = true → a = b
  | [], [], _ => rfl
  | a :: r, b :: l, h => by
    unfold eqM at h
    simp only [Bool.and_eq_true] at h
    rw [eqM_eq h.2]
    obtain ⟨a1, a2⟩ := a
    obtain ⟨b1, b2⟩ := b
    have e1 : a1 = b1 := eqVal_eq h.1.1
    have e2 : a2 = b2 := eqA_eq h.1.2
    rw [e1, e2]
  | [], _ :: _, h => by cases h
  | _ :: _, [], h => by cases h
def sameC : Option Cell → Cell → Bool
  | some (.box a), .box b => eqL a b
  | some (.tip a), .tip b => Nat.beq a b
  | some (.mp a), .mp b => eqM a b
  | _, _ => false
theorem sameC_eq {a : Option Cell} {b : Cell} (h : sameC a b = true) : a = some b := by
  unfold sameC at h
  split at h
  · rw [eqL_eq h]
  · rw [nb h]
  · rw [eqM_eq h]
  · cases h
/-- A call that was reckoned: where names end, what is handed in, what lies there; what comes back, where names end then, what lies there then. -/
structure Kn where
  N : Nat
  args : List AV
  ins : List (Nat × Cell)
  res : AV
  M : Nat
  outs : List (Nat × Option Cell)
noncomputable def ofL (t : T Cell) : List (Nat × Option Cell) → T Cell
  | [] => t
  | p :: r => T.set (ofL t r) p.1 p.2
theorem ofL_get (t : T Cell) : ∀ (l : List (Nat × Option Cell)) (j : Nat) (c : Cell), (ofL t l).get j = some c → (j, some c) ∈ l ∨ ((∀ d, (j, d) ∉ l) ∧ t.get j = some c)
  | [], j, c, h => .inr ⟨fun _ => List.not_mem_nil, h⟩
  | p :: r, j, c, h => by
    unfold ofL at h
    rw [T.get_set] at h
    split at h
    · rename_i e
      subst e
      refine .inl ?_
      rw [← h]; exact List.mem_cons_self ..
    · rename_i e
      rcases ofL_get t r j c h with h1 | ⟨h1, h2⟩
      · exact .inl (List.mem_cons_of_mem _ h1)
      · refine .inr ⟨fun d hd => ?_, h2⟩
        rcases List.mem_cons.1 hd with hd | hd
        · subst hd; exact e rfl
        · exact h1 d hd
noncomputable def Kn.st (k : Kn) : St := ⟨k.N, ofL .leaf (k.ins.map fun p => (p.1, some p.2))⟩
/-- What is said of a box, if anything. -/
noncomputable def sameO (a : Option Cell) : Option Cell → Bool
  | some c => sameC a c
  | none => true
/-- Does a run say so? -/
def Kn.says (k : Kn) : R → Bool
  | .ret a S => eqA a k.res && Nat.beq S.next k.M && k.outs.all (fun p => sameO (S.mem.get p.1) p.2) && k.ins.all (fun p => k.outs.any (fun q => Nat.beq q.1 p.1))
  | _ => false
noncomputable def Kn.fits (k : Kn) (args : List AV) (S : St) : Bool := eqL args k.args && k.ins.all (fun p => sameC (S.mem.get p.1) p.2)
noncomputable def tab (ks : List Kn) (g : List AV → St → R) (args : List AV) (S : St) : R := List.rec (motive := fun _ => R) (g args S) (fun k _ ih => Bool.rec ih (Bool.rec .fail (.ret k.res ⟨k.M, ofL S.mem k.outs⟩) (k.fits args S)) (Nat.beq k.N S.next)) ks
theorem tab_ok {E : Env} (hE : E.Ok) (hI : IntrOk E) (hmix : E.P.follows .mixedOrders = true) (hG : E.G = fun _ => none) {f : FuncId} (hF : (E.F f).isSome = true) {g : List AV → St → R}
    (hg : ∀ (base : Nat) (w0 : World) args S, g args S ≠ .fail → ∀ γ w (vs : List Value), SR base w0 γ S w → VRL γ w args vs → Calls E.P f vs.toArray w (RetOk base w0 γ S w (g args S))) :
    ∀ (ks : List Kn), (∀ k ∈ ks, ∃ m, k.says (callX E m f k.args k.st) = true) → ∀ (base : Nat) (w0 : World) (args : List AV) (S : St), tab ks g args S ≠ .fail → ∀ (γ : Gh) (w : World) (vs : List Value), SR base w0 γ S w → VRL γ w args vs → Calls E.P f vs.toArray w (RetOk base w0 γ S w (tab ks g args S))
  | [], _, base, w0, args, S, hne, γ, w, vs, hS, hv => hg base w0 args S hne γ w vs hS hv
  | k :: ks, hks, base, w0, args, S, hne, γ, w, vs, hS, hv => by
    have e : tab (k :: ks) g args S = Bool.rec (tab ks g args S) (Bool.rec .fail (.ret k.res ⟨k.M, ofL S.mem k.outs⟩) (k.fits args S)) (Nat.beq k.N S.next) := rfl
    cases hN : Nat.beq k.N S.next with
    | false =>
      have e2 : tab (k :: ks) g args S = tab ks g args S := by rw [e, hN]
      rw [e2] at hne ⊢
      exact tab_ok hE hI hmix hG hF hg ks (fun k hk => hks k (List.mem_cons_of_mem _ hk)) base w0 args S hne γ w vs hS hv
    | true =>
      cases hf : k.fits args S with
      | false => exact absurd (by rw [e, hN, hf]) hne
      | true =>
        have e2 : tab (k :: ks) g args S = .ret k.res ⟨k.M, ofL S.mem k.outs⟩ := by rw [e, hN, hf]
        rw [e2]
        have hN := nb hN
        unfold Kn.fits at hf
        rw [Bool.and_eq_true] at hf
        have ha := eqL_eq hf.1
        subst ha
        have hins : ∀ p ∈ k.ins, S.mem.get p.1 = some p.2 := fun p hp => sameC_eq (List.all_eq_true.1 hf.2 p hp)
        have hs : ∀ id c, k.st.mem.get id = some c → S.mem.get id = some c := fun id c h => by
          rcases ofL_get .leaf _ id c h with h | ⟨_, h⟩
          · obtain ⟨p, hp, he⟩ := List.mem_map.1 h
            injection he with e1 e2
            injection e2 with e2
            rw [← e1, ← e2]; exact hins _ hp
          · rw [T.get_leaf] at h; cases h
        obtain ⟨q1, q2⟩ := hS.sub (S0 := k.st) hN hs
        obtain ⟨m, hm⟩ := hks k (List.mem_cons_self ..)
        cases hr : callX E m f k.args k.st with
        | fail => rw [hr] at hm; cases hm
        | pan a S1 => rw [hr] at hm; cases hm
        | ret a S1 =>
          rw [hr] at hm
          unfold Kn.says at hm
          simp only [Bool.and_eq_true] at hm
          obtain ⟨⟨⟨m1, m2⟩, m3⟩, m4⟩ := hm
          have m1 := eqA_eq m1
          subst m1
          have m2 := nb m2
          have := callX_ok hE hI hmix m base w0 f k.args k.st (by rw [hr]; exact fun e => by cases e) γ w vs q1 (by rw [hG]; exact GR.none) hv hF
          rw [hr] at this
          refine this.mono fun en w' he => ?_
          obtain ⟨γ', v, j1, j2, j3, rfl⟩ := he
          obtain ⟨r1, r2⟩ := hS.join (S0 := k.st) (Sj := ⟨k.M, ofL S.mem k.outs⟩) hN hs j1 j2 m2.symm (fun id c h => by
            have h : (ofL S.mem k.outs).get id = some c := h
            rcases ofL_get S.mem k.outs id c h with h | ⟨h1, h2⟩
            · exact .inl (sameC_eq (by have := List.all_eq_true.1 m3 _ h; exact this))
            · refine .inr ⟨?_, h2⟩
              cases hq : k.st.mem.get id with
              | none => rfl
              | some d =>
                exfalso
                rcases ofL_get .leaf _ id d hq with h3 | ⟨_, h3⟩
                · obtain ⟨p0, hp0, he0⟩ := List.mem_map.1 h3
                  injection he0 with g1 g2
                  have h4 := List.all_eq_true.1 m4 _ hp0
                  rw [g1] at h4
                  obtain ⟨q, hq1, hq2⟩ := List.any_eq_true.1 h4
                  have := nb hq2
                  obtain ⟨qi, qc⟩ := q
                  have hqi : qi = id := this
                  subst hqi
                  exact h1 qc hq1
                · rw [T.get_leaf] at h3; cases h3)
          exact ⟨γ', v, r1, r2, j3, rfl⟩
end Go.Ax
noncomputable section
namespace Go.Ax
open Go.RowKit
set_option linter.unusedVariables false
set_option linter.unusedSimpArgs false
def withI (E : Env) (f : FuncId) (g : List AV → St → R) : Env := { P := E.P, G := E.G, F := E.F, I := fun k => Bool.rec (E.I k) (some g) (Nat.beq k f), M := E.M }
theorem withI_ok {E : Env} (h : E.Ok) (f : FuncId) (g : List AV → St → R) : (withI E f g).Ok := ⟨fun k fn hk => h.fn k fn hk⟩
abbrev Sound (P : Program) (f : FuncId) (g : List AV → St → R) : Prop :=
  ∀ (base : Nat) (w0 : World) (args : List AV) (S : St), g args S ≠ .fail → ∀ (γ : Gh) (w : World) (vs : List Value), SR base w0 γ S w → VRL γ w args vs → Calls P f vs.toArray w (RetOk base w0 γ S w (g args S))
theorem withI_intr {E : Env} (hI : IntrOk E) {f : FuncId} {g : List AV → St → R} (hg : Sound E.P f g) : IntrOk (withI E f g) := fun k g' hk base w0 args S hne γ w vs hS hG hv => by
  have hk2 : (Bool.rec (E.I k) (some g) (Nat.beq k f) : Option (List AV → St → R)) = some g' := hk
  cases hb : Nat.beq k f with
  | false =>
    rw [hb] at hk2
    exact hI k g' hk2 base w0 args S hne γ w vs hS hG hv
  | true =>
    rw [hb] at hk2
    injection hk2 with hk2; subst hk2
    have : k = f := Nat.eq_of_beq_eq_true hb
    subst this
    exact hg base w0 args S hne γ w vs hS hv
theorem run_snd {E : Env} (hE : E.Ok) (hI : IntrOk E) (hmix : E.P.follows .mixedOrders = true) (hG : E.G = fun _ => none) {f : FuncId} (hF : (E.F f).isSome = true) (m : Nat) : Sound E.P f (callX E m f) := fun base w0 args S hne γ w vs hS hv =>
  callX_ok hE hI hmix m base w0 f args S hne γ w vs hS (by rw [hG]; exact GR.none) hv hF
theorem fail_snd (P : Program) (f : FuncId) : Sound P f (fun _ _ => .fail) := fun _ _ _ _ h => absurd rfl h
theorem tab_snd {E : Env} (hE : E.Ok) (hI : IntrOk E) (hmix : E.P.follows .mixedOrders = true) (hG : E.G = fun _ => none) {f : FuncId} (hF : (E.F f).isSome = true) {g : List AV → St → R} (hg : Sound E.P f g) (ks : List Kn) (hk : ∀ k ∈ ks, ∃ m, k.says (callX E m f k.args k.st) = true) : Sound E.P f (tab ks g) :=
  fun base w0 args S hne γ w vs hS hv => tab_ok hE hI hmix hG hF hg ks hk base w0 args S hne γ w vs hS hv
/-- So many levels of calls, in the last of which the table is looked at first. -/
noncomputable def levels (E : Env) (f : FuncId) (ks : List Kn) : Nat → Env
  | 0 => E
  | n + 1 => withI E f (tab ks (callX (levels E f ks n) 2000 f))
theorem levels_same (E : Env) (f : FuncId) (ks : List Kn) : ∀ n, (levels E f ks n).P = E.P ∧ (levels E f ks n).G = E.G ∧ (levels E f ks n).F = E.F
  | 0 => ⟨rfl, rfl, rfl⟩
  | n + 1 => ⟨rfl, rfl, rfl⟩
theorem levels_ok {E E0 : Env} (hE : E.Ok) (hI : IntrOk E) (hmix : E.P.follows .mixedOrders = true) (hG : E.G = fun _ => none) {f : FuncId} (hF : (E.F f).isSome = true) (hE0 : E0.Ok) (hI0 : IntrOk E0) (hP0 : E0.P = E.P) (hG0 : E0.G = fun _ => none) (hF0 : E0.F = E.F) (ks : List Kn) (hk : ∀ k ∈ ks, ∃ m, k.says (callX E0 m f k.args k.st) = true) :
    ∀ n, (levels E f ks n).Ok ∧ IntrOk (levels E f ks n)
  | 0 => ⟨hE, hI⟩
  | n + 1 => by
    obtain ⟨h1, h2⟩ := levels_ok hE hI hmix hG hF hE0 hI0 hP0 hG0 hF0 ks hk n
    obtain ⟨p1, p2, p3⟩ := levels_same E f ks n
    refine ⟨withI_ok hE f _, withI_intr hI ?_⟩
    have hr : Sound E0.P f (callX (levels E f ks n) 2000 f) := by
      have := run_snd h1 h2 (by rw [p1]; exact hmix) (by rw [p2]; exact hG) (f := f) (by rw [p3]; exact hF) 2000
      rw [hP0, ← p1]; exact this
    have := tab_snd hE0 hI0 (by rw [hP0]; exact hmix) hG0 (f := f) (by rw [hF0]; exact hF) hr ks hk
    rw [hP0] at this
    exact this
end Go.Ax
