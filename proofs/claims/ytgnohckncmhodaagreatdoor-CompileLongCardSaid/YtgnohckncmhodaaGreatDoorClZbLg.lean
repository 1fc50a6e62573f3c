/-
  The lexer as a function of which one knows what it answers.
-/
import Derived.Test.YtgnohckncmhodaaGreatDoorClG11
set_option linter.unusedVariables false
set_option linter.unusedSimpArgs false
noncomputable section
namespace Go.Ax
open Go.RowKit Go.Proofs
set_option linter.unusedVariables false
set_option linter.unusedSimpArgs false
set_option maxRecDepth 100000
/-- The same, for the kernel: from what is left of the text. -/
def allK (F L : Nat) : Nat → List UInt8 → Nat → Option ((Nat × Nat) ⊕ List Tk)
  | 0, _, _ => none
  | n + 1, r, i => match r with
    | [] => some (.inr [⟨5, L, [], 0⟩])
    | b :: r' => match nextT (b :: r') i with
      | none => none
      | some p => if p.2 = 0 then (match allK F L n (((b :: r').drop p.1.text.length).drop (skipF F ((b :: r').drop p.1.text.length))) (i + p.1.text.length + skipF F ((b :: r').drop p.1.text.length)) with
          | none => none
          | some (.inl x) => some (.inl x)
          | some (.inr ts) => some (.inr (p.1 :: ts))) else some (.inl (i, p.2))
theorem allK_eq (l : List UInt8) : ∀ (n i : Nat), i ≤ l.length → allF l n i = allK (l.length + 1) l.length n (l.drop i) i
  | 0, i, hi => rfl
  | n + 1, i, hi => by
    unfold allF allK
    by_cases h : i < l.length
    · rw [if_pos h, List.drop_eq_getElem_cons h]
      simp only
      rw [← List.drop_eq_getElem_cons h]
      cases hq : nextT (l.drop i) i with
      | none => rfl
      | some p =>
        simp only
        by_cases he : p.2 = 0
        · rw [if_pos he, if_pos he]
          have hp : nextT (l.drop i) i = some (p.1, 0) := by rw [hq, ← he]
          have hn := next_len hp
          rw [List.length_drop] at hn
          have hs := skipF_le (l.length + 1) (l.drop (i + p.1.text.length))
          rw [List.length_drop] at hs
          rw [allK_eq l n _ (by omega)]
          simp only [List.drop_drop, Nat.add_assoc]
          generalize allK (l.length + 1) l.length n _ _ = z
          cases z with
          | none => rfl
          | some y => cases y <;> rfl
        · rw [if_neg he, if_neg he]
    · rw [if_neg h]
      have hd : l.drop i = [] := List.drop_eq_nil_of_le (by omega)
      rw [hd]
def lexK (L : Nat) (l : List UInt8) : Option ((Nat × Nat) ⊕ List Tk) := Bool.rec (motive := fun _ => Option ((Nat × Nat) ⊕ List Tk)) (some (.inl (4000, 3))) (allK (L + 1) L (L + 1) (l.drop (skipF (L + 1) l)) (skipF (L + 1) l)) (Nat.ble L 4000)
theorem lexK_eq (l : List UInt8) : lexK l.length l = lexL l := by
  unfold lexK lexL
  by_cases h : 4000 < l.length
  · rw [if_pos h]
    have : Nat.ble l.length 4000 = false := by
      cases hb : Nat.ble l.length 4000 with
      | false => rfl
      | true => have := Nat.le_of_ble_eq_true hb; omega
    rw [this]
  · rw [if_neg h, Nat.ble_eq_true_of_le (by omega), allK_eq l _ _ (skipF_le _ _)]
def lexI (args : List AV) (S : St) : R := match args with
  | [.v (.string s)] => if s.size ≤ 1000000 then (match lexK s.data.toList.length s.data.toList with
      | some (.inr ts) => .ret (.tup [.sl 0 0 4 (ts.map tokA), .agg (fltC 0 0)]) S
      | some (.inl x) => .ret (.tup [.nils, .agg (fltC x.1 x.2)]) S
      | none => .fail) else .fail
  | _ => .fail
/-- Values that hang on no name. -/
def AV.plain : AV → Bool
  | .v _ => true
  | _ => false
theorem VR.plain {γ γ' : Gh} {w w' : World} {a : AV} {x : Value} (h : VR γ w a x) (hp : a.plain = true) : VR γ' w' a x := by
  cases h with
  | v x h => exact .v x h
  | _ => cases hp
theorem VR.rowPlain {γ γ' : Gh} {w : World} {tok sz : Nat} {es : List AV} {x : Value} (h : VR γ w (.sl tok 0 sz es) x) (hp : ∀ a ∈ flat es, a.plain = true) (him : ∀ b o, γ.im b o → γ'.im b o) : VR γ' w (.sl 0 0 sz es) x := by
  cases h with
  | sl _ _ _ _ b o cap c hsz hes h1 h hr ht hf hc hb =>
    exact .sl 0 0 sz es b o cap c hsz hes h1 (fun k hk => ⟨him _ _ (h k hk).1, (h k hk).2⟩) (fun k hk => (hr k hk).plain (hp _ (List.getElem_mem hk))) (fun h => by omega) (fun h => by omega) hc hb
theorem VR.aggPlain {γ γ' : Gh} {w w' : World} {cs : List AV} {x : Value} (h : VR γ w (.agg cs) x) (hp : ∀ a ∈ cs, a.plain = true) : VR γ' w' (.agg cs) x := by
  cases h with
  | agg _ x hx h1 h => exact .agg cs x hx h1 (fun k hk hk' => (h k hk hk').plain (hp _ (List.getElem_mem hk)))
theorem tok_plain (ts : List Tk) : ∀ a ∈ flat (ts.map tokA), a.plain = true := by
  intro a ha
  unfold flat at ha
  rw [List.mem_flatMap] at ha
  obtain ⟨e, he, hae⟩ := ha
  obtain ⟨t, _, rfl⟩ := List.mem_map.1 he
  simp only [tokA, AV.cells, tokC, List.mem_cons, List.not_mem_nil, or_false] at hae
  rcases hae with rfl | rfl | rfl | rfl <;> rfl
theorem flt_plain (a e : Nat) : ∀ x ∈ fltC a e, x.plain = true := by
  intro x hx
  simp only [fltC, List.mem_cons, List.not_mem_nil, or_false] at hx
  rcases hx with rfl | rfl <;> rfl
theorem lex_I (base : Nat) (w0 : World) (args : List AV) (S : St) (hne : lexI args S ≠ .fail) (γ : Gh) (w : World) (vs : List Value) (hS : SR base w0 γ S w) (hg : GR γ w E1.G) (hv : VRL γ w args vs) : Calls Tryz.prog 60 vs.toArray w (RetOk base w0 γ S w (lexI args S)) := by
  generalize hr : lexI args S = r at hne ⊢
  unfold lexI at hr
  split at hr
  case h_2 => exact absurd hr.symm hne
  rename_i s
  split at hr
  case isFalse => exact absurd hr.symm hne
  rename_i hsz
  have es : AV.v (.string s) = strS s.data.toList := rfl
  rw [lexK_eq] at hr
  cases ho : lexL s.data.toList with
  | none => rw [ho] at hr; exact absurd hr.symm hne
  | some out =>
    have hlen : s.data.toList.length ≤ 1000000 := by rw [Array.length_toList]; exact hsz
    obtain ⟨r2, ⟨m0, hm⟩, hpost⟩ := all_w s.data.toList S hS.pos hlen out ho
    have hc := hm m0 (Nat.le_refl _)
    have hrne : r2 ≠ .fail := by
      cases out with
      | inl x => obtain ⟨S', rfl, _⟩ := hpost; exact fun e => by cases e
      | inr ts => obtain ⟨S', tok, rfl, _⟩ := hpost; exact fun e => by cases e
    have := call_sound e1_ok e1_intr (drawnNew_ok e1_ok e1_mix) m0 base w0 60 [.v (.string s)] S (by rw [es]; show ckN E1 m0 60 _ S ≠ _; rw [hc]; exact hrne) γ w vs hS hg hv (by kernel_rfl)
    rw [es] at this
    rw [show callN E1 (drawnNew E1) m0 60 [strS s.data.toList] S = r2 from hc] at this
    refine this.mono fun x w' hx => ?_
    rw [ho] at hr
    cases out with
    | inl y =>
      obtain ⟨S', rfl, hk⟩ := hpost
      obtain ⟨γ', v, k1, k2, k3, rfl⟩ := hx
      obtain ⟨q1, q2⟩ := hS.forget k1 k2 hk.2
      simp only at hr
      subst hr
      refine ⟨_, v, q1, q2, ?_, rfl⟩
      cases k3 with
      | tup _ xs hx hh =>
        refine .tup _ xs hx (fun k hk1 hk2 => ?_)
        match k, hk1 with
        | 0, _ =>
          have := hh 0 (by simp) hk2
          simp only [List.getElem_cons_zero] at this ⊢
          generalize xs[0] = z at this
          cases this; exact .nils
        | 1, _ => exact (hh 1 (by simp) hk2).aggPlain (flt_plain _ _)
    | inr ts =>
      obtain ⟨S', tok, rfl, hk⟩ := hpost
      obtain ⟨γ', v, k1, k2, k3, rfl⟩ := hx
      obtain ⟨q1, q2⟩ := hS.forget k1 k2 hk.2
      simp only at hr
      subst hr
      refine ⟨_, v, q1, q2, ?_, rfl⟩
      cases k3 with
      | tup _ xs hx hh =>
        refine .tup _ xs hx (fun k hk1 hk2 => ?_)
        match k, hk1 with
        | 0, _ => exact (hh 0 (by simp) hk2).rowPlain (tok_plain ts) (fun _ _ h => h)
        | 1, _ => exact (hh 1 (by simp) hk2).aggPlain (flt_plain _ _)
def strsOf : List AV → Option (List (List UInt8))
  | [] => some []
  | .v (.string s) :: r => match strsOf r with
    | some l => some (s.data.toList :: l)
    | none => none
  | _ => none
theorem strsOf_some : ∀ {es : List AV} {ws : List (List UInt8)}, strsOf es = some ws → es = ws.map strS
  | [], ws, h => by injection h with h; subst h; rfl
  | a :: r, ws, h => by
    unfold strsOf at h
    split at h
    · cases ‹_ :: _ = []›
    · rename_i s r' heq
      injection heq with e1 e2; subst e1; subst e2
      split at h
      · rename_i l hl
        injection h with h; subst h
        rw [strsOf_some hl]; rfl
      · cases h
    · cases h
/-- Does a text stand in a row of texts? -/
def memK (s : List UInt8) (ws : List (List UInt8)) : Bool := List.rec (motive := fun _ => Bool) false (fun w _ ih => Bool.rec (motive := fun _ => Bool) ih true (eqBytes s w)) ws
theorem memK_eq (s : List UInt8) : ∀ ws, memK s ws = decide (s ∈ ws)
  | [] => rfl
  | w :: r => by
    show Bool.rec (motive := fun _ => Bool) (memK s r) true (eqBytes s w) = _
    rw [memK_eq s r, eqBytes_eq]
    cases h : (s == w) with
    | true => have h : s = w := by simpa using h
              subst h; simp
    | false => have h : ¬ s = w := by simpa using h
               simp [h]
def containsI (args : List AV) (S : St) : R := match args with
  | [.sl tok off 1 es, .v (.string s)] => match strsOf es with
    | some ws => if ws.length ≤ 100000 then .ret (.v (.bool (memK s.data.toList ws))) S else .fail
    | none => .fail
  | _ => .fail
theorem contains_I (base : Nat) (w0 : World) (args : List AV) (S : St) (hne : containsI args S ≠ .fail) (γ : Gh) (w : World) (vs : List Value) (hS : SR base w0 γ S w) (hg : GR γ w E1.G) (hv : VRL γ w args vs) : Calls Tryz.prog 109 vs.toArray w (RetOk base w0 γ S w (containsI args S)) := by
  generalize hr : containsI args S = r at hne ⊢
  unfold containsI at hr
  split at hr
  case h_2 => exact absurd hr.symm hne
  rename_i tok off es s
  split at hr
  case h_2 => exact absurd hr.symm hne
  rename_i ws hws
  split at hr
  case isFalse => exact absurd hr.symm hne
  rename_i hlen
  have he := strsOf_some hws
  subst he
  obtain ⟨r2, ⟨m0, hm⟩, hpost⟩ := contains_w tok off ws s.data.toList hlen S
  have hc := hm m0 (Nat.le_refl _)
  have hq : r2 = r := by rw [hpost, ← hr, memK_eq]
  subst hq
  have := call_sound e1_ok e1_intr (drawnNew_ok e1_ok e1_mix) m0 base w0 109 [.sl tok off 1 (ws.map strS), strS s.data.toList] S (by show ckN E1 m0 109 _ S ≠ _; rw [hc]; exact hne) γ w vs hS hg hv (by kernel_rfl)
  rw [show callN E1 (drawnNew E1) m0 109 [.sl tok off 1 (ws.map strS), strS s.data.toList] S = r2 from hc] at this
  exact this
/-- The surroundings, with the lexer and the look into a row of texts known. -/
def knownI (k : Nat) : Option (List AV → St → R) := Bool.rec (Bool.rec (E1.I k) (some containsI) (Nat.beq k 109)) (some lexI) (Nat.beq k 60)
def E2 : Env := { P := Tryz.prog, G := fun _ => none, F := E1.F, I := knownI, M := rowM }
theorem e2_ok : E2.Ok := ⟨fun k fn h => e1_ok.fn k fn h⟩
theorem e2_mix : E2.P.follows .mixedOrders = true := e1_mix
theorem e2_intr : IntrOk E2 := fun k g hk base w0 args S hne γ w vs hS hg hv => by
  have hk2 : (Bool.rec (Bool.rec (E1.I k) (some containsI) (Nat.beq k 109)) (some lexI) (Nat.beq k 60) : Option (List AV → St → R)) = some g := hk
  cases hb : Nat.beq k 60 with
  | true =>
    rw [hb] at hk2
    injection hk2 with hk2; subst hk2
    have : k = 60 := Nat.eq_of_beq_eq_true hb
    subst this
    exact lex_I base w0 args S hne γ w vs hS hg hv
  | false =>
    rw [hb] at hk2
    cases hc : Nat.beq k 109 with
    | true =>
      rw [hc] at hk2
      injection hk2 with hk2; subst hk2
      have : k = 109 := Nat.eq_of_beq_eq_true hc
      subst this
      exact contains_I base w0 args S hne γ w vs hS hg hv
    | false =>
      rw [hc] at hk2
      exact e1_intr k g hk2 base w0 args S hne γ w vs hS hg hv
end Go.Ax
