/-
  More operations made ready; operations that write, calls; code; functions: all runs are the slow ones.
-/
import Derived.Test.YtjgknelmjdallaaGreatDoorFcY
noncomputable section
namespace Go.Ax
open Go.RowKit
set_option linter.unusedVariables false
set_option linter.unusedSimpArgs false

/-- Structs and rows built of parts. -/
structure PB where
  off : Nat
  size : Nat
  g : GB
def noTupR (a : AV) : Bool := PV.rec (motive := fun _ => Bool) (fun _ _ => true) (fun _ => true) true (fun _ _ _ _ => true) (fun _ => true) (fun _ => false) true (fun _ _ _ _ => true) a.pv
theorem noTupR_eq (a : AV) : noTupR a = a.noTup := by cases a <;> rfl
def okPart (a : AV) (size : Nat) : Bool := Bool.rec (motive := fun _ => Bool) false (Nat.beq (lenR (cellsR a)) size) (noTupR a)
theorem okPart_true {a : AV} {size : Nat} (h : okPart a size = true) : a.noTup = true ∧ a.cells.length = size := by
  unfold okPart at h
  rw [noTupR_eq, lenR_eq, cellsR_eq] at h
  cases hn : a.noTup with
  | false => rw [hn] at h; cases h
  | true => rw [hn] at h; exact ⟨rfl, Nat.eq_of_beq_eq_true h⟩
def fill1 (off size : Nat) (ih : List AV → Option (List AV)) (cs : List AV) (a : AV) : Option (List AV) := Bool.rec (motive := fun _ => Option (List AV)) none (Option.rec (motive := fun _ => Option (List AV)) none ih (overAtR off (cellsR a) cs)) (okPart a size)
def buildL (l : List PB) (f : T AV) : List AV → Option (List AV) := List.rec (motive := fun _ => List AV → Option (List AV)) (fun cs => some cs) (fun p _ ih cs => Option.rec (motive := fun _ => Option (List AV)) none (fill1 p.off p.size ih cs) (p.g.g f)) l
def placesL (G : Gl) (pl : List (Nat × Nat)) : List (Nat × Operand) → Option (List PB)
  | [] => some []
  | (i, x) :: r => match pl[i]?, placesL G pl r with
    | some (off, size), some l => some (⟨off, size, opG G x⟩ :: l)
    | _, _ => none
theorem buildL_ok {G : Gl} {pl : List (Nat × Nat)} {f : T AV} : ∀ {parts : List (Nat × Operand)} {l : List PB} {cs r : List AV}, placesL G pl parts = some l → buildL l f cs = some r → ∃ ps, partsA G f parts = some ps ∧ fillA (fun i => pl[i]?) cs ps = some r
  | [], l, cs, r, h, hb => by
    injection h with h; subst h
    injection hb with hb; subst hb
    exact ⟨[], rfl, rfl⟩
  | (i, x) :: rest, l, cs, r, h, hb => by
    unfold placesL at h
    split at h
    · rename_i off size l' hp hl
      injection h with h; subst h
      have hb : Option.rec (motive := fun _ => Option (List AV)) none (fill1 off size (buildL l' f) cs) ((opG G x).g f) = some r := hb
      cases hx : (opG G x).g f with
      | none => rw [hx] at hb; cases hb
      | some a =>
        rw [hx] at hb
        have hb : fill1 off size (buildL l' f) cs a = some r := hb
        unfold fill1 at hb
        cases hk : okPart a size with
        | false => rw [hk] at hb; cases hb
        | true =>
          rw [hk] at hb
          have hb : Option.rec (motive := fun _ => Option (List AV)) none (buildL l' f) (overAtR off (cellsR a) cs) = some r := hb
          cases ho : overAtR off (cellsR a) cs with
          | none => rw [ho] at hb; cases hb
          | some q =>
            rw [ho] at hb
            have hb : buildL l' f q = some r := hb
            obtain ⟨ps, h1, h2⟩ := buildL_ok hl hb
            obtain ⟨k1, k2⟩ := okPart_true hk
            obtain ⟨k3, k4⟩ := overAtR_some _ _ _ _ ho
            rw [cellsR_eq] at k3 k4
            rw [opG_ok] at hx
            refine ⟨(i, a) :: ps, by simp only [partsA, hx, h1], ?_⟩
            simp only [fillA, hp, k1, k2, beq_self_eq_true, Bool.true_and]
            rw [if_pos (by simpa using (by omega : off + size ≤ cs.length))]
            unfold splice
            rw [← k4]; exact h2
    · cases h
def buildB (l : List PB) (z : List AV) : VB := ⟨fun f _ => aggO (buildL l f z)⟩
def buildV (E : Env) (o : Oper) (t : TypeId) (parts : List (Nat × Operand)) : VB := match zeroA E.P t, fieldsOf E.P t with
  | some z, some fs => match placesA E.P fs.toList with
    | some pl => match placesL E.G pl parts with
      | some l => if z.noTup then buildB l z.cells else slowV E o
      | none => slowV E o
    | none => slowV E o
  | _, _ => slowV E o
theorem buildV_ok {E : Env} {o : Oper} {t : TypeId} {ps : Array (Nat × Operand)} (ho : o.op = .build t ps) : VOk E o (buildV E o t ps.toList) := by
  have slow : VOk E o (slowV E o) := slowV_ok (by simp [isLook, ho])
  unfold buildV
  split
  · rename_i z fs hz hf
    split
    · rename_i pl hpl
      split
      · rename_i l hl
        split
        · rename_i hn
          intro f S a h
          obtain ⟨cs, h1, h2⟩ := bndL_some h
          injection h2 with h2; subst h2
          obtain ⟨qs, k1, k2⟩ := buildL_ok hl h1
          simp only [exec1, ho, k1, oBuild, hz, hf, hpl, k2, if_pos hn, ofOpt]
        · exact slow
      · exact slow
    · exact slow
  · exact slow
def valsL (n : Nat) (l : List GB) (f : T AV) : Option (List AV) := List.rec (motive := fun _ => Option (List AV)) (some []) (fun g _ ih => Option.rec (motive := fun _ => Option (List AV)) none (fun a => Bool.rec (motive := fun _ => Option (List AV)) none (consO a ih) (okPart a n)) (g.g f)) l
theorem valsL_ok {G : Gl} {n : Nat} {f : T AV} : ∀ {parts : List (Nat × Operand)} {r : List AV}, valsL n (parts.map fun p => opG G p.2) f = some r → ∃ ps, partsA G f parts = some ps ∧ ps.map (·.1) = parts.map (·.1) ∧ ps.map (·.2) = r ∧ (ps.all fun p => p.2.noTup && p.2.cells.length == n) = true
  | [], r, h => by injection h with h; subst h; exact ⟨[], rfl, rfl, rfl, rfl⟩
  | (i, x) :: rest, r, h => by
    have h : Option.rec (motive := fun _ => Option (List AV)) none (fun a => Bool.rec (motive := fun _ => Option (List AV)) none (consO a (valsL n (rest.map fun p => opG G p.2) f)) (okPart a n)) ((opG G x).g f) = some r := h
    cases hx : (opG G x).g f with
    | none => rw [hx] at h; cases h
    | some a =>
      rw [hx] at h
      have h : Bool.rec (motive := fun _ => Option (List AV)) none (consO a (valsL n (rest.map fun p => opG G p.2) f)) (okPart a n) = some r := h
      cases hk : okPart a n with
      | false => rw [hk] at h; cases h
      | true =>
        rw [hk] at h
        have h : consO a (valsL n (rest.map fun p => opG G p.2) f) = some r := h
        cases hq : valsL n (rest.map fun p => opG G p.2) f with
        | none => rw [hq] at h; cases h
        | some q =>
          rw [hq] at h
          have h : some (a :: q) = some r := h
          injection h with h; subst h
          obtain ⟨ps, h1, h2, h3, h4⟩ := valsL_ok hq
          obtain ⟨k1, k2⟩ := okPart_true hk
          rw [opG_ok] at hx
          exact ⟨(i, a) :: ps, by simp only [partsA, hx, h1], by simp [h2], by simp [h3], by simp only [List.all_cons, k1, k2, h4, beq_self_eq_true, Bool.and_self]⟩
def rowB (n : Nat) (l : List GB) : VB := ⟨fun f _ => bndL (fun vs => some (.sl 1 0 n vs)) (valsL n l f)⟩
def rowV (E : Env) (o : Oper) (t : TypeId) (len : Nat) (parts : List (Nat × Operand)) : VB := match elemT E.P t with
  | some (none, e) => match sizeT E.P e, zeroA E.P e with
    | some (k + 1), some _ => if parts.map (·.1) = List.range len ∧ len * (k + 1) ≤ 16777216 then rowB (k + 1) (parts.map fun p => opG E.G p.2) else slowV E o
    | _, _ => slowV E o
  | _ => slowV E o
theorem rowV_ok {E : Env} {o : Oper} {t : TypeId} {len : Nat} {ps : Array (Nat × Operand)} (ho : o.op = .buildSlice t len ps) : VOk E o (rowV E o t len ps.toList) := by
  have slow : VOk E o (slowV E o) := slowV_ok (by simp [isLook, ho])
  unfold rowV
  split
  · rename_i e he
    split
    · rename_i k z hs hz
      split
      · rename_i hc
        intro f S a h
        obtain ⟨vs, h1, h2⟩ := bndL_some h
        injection h2 with h2; subst h2
        obtain ⟨qs, k1, k2, k3, k4⟩ := valsL_ok h1
        simp only [exec1, ho, k1, oBuildSlice, he, hs, hz, k2, k3, hc.1, k4, beq_self_eq_true, Bool.and_self, Bool.true_and, decide_eq_true_eq, if_pos hc.2, ofOpt]
      · exact slow
    · exact slow
  · exact slow
/-- Lengths. -/
def lenP (a : AV) : Option AV := PV.rec (motive := fun _ => Option AV) (fun _ _ => none) (fun _ => none) (some (.v (.int .i64 (.ofNat 0)))) (fun _ _ _ es => some (.v (.int .i64 (.ofNat (lenR es))))) (fun _ => none) (fun _ => none) none (fun _ _ n _ => some (.v (.int .i64 (.ofNat n)))) a.pv
def lenT (a : AV) : Option AV := SV.rec (motive := fun _ => Option AV) (fun _ => none) (fun _ _ => none) (fun l => some (.v (.int .i64 (.ofNat (lenR l))))) none a.sv
def lenPV (g : GB) : VB := ⟨fun f _ => bnd lenP (g.g f)⟩
def lenTV (g : GB) : VB := ⟨fun f _ => bnd lenT (g.g f)⟩
def lenV (E : Env) (o : Oper) (t : TypeId) (g : GB) : VB := match E.P.underlying t with
  | some (.slice _) => lenPV g
  | some .string => lenTV g
  | _ => slowV E o
theorem lenV_ok {E : Env} {o : Oper} {c : Call} {t : TypeId} {x : Operand} (ho : o.op = .call c) (hc : c.callee = .builtin .len) (ha : c.args.toList = [x]) (ht : c.argTypes.toList = [t]) : VOk E o (lenV E o t (opG E.G x)) := by
  unfold lenV
  split
  · rename_i e hu
    intro f S a h
    obtain ⟨b, h1, h2⟩ := bnd_some h
    rw [opG_ok] at h1
    simp only [exec1, ho, callA, hc, ha, ht, h1]
    unfold lenP at h2
    cases hp : b.pv with
    | n => rw [hp] at h2; injection h2 with h2; subst h2; rw [pv_n hp]; simp only [oLen, hu]; rfl
    | l tok off sz es => rw [hp] at h2; injection h2 with h2; subst h2; rw [pv_l hp]; simp only [oLen, hu, lenR_eq]; rfl
    | w id off n sz => rw [hp] at h2; injection h2 with h2; subst h2; rw [pv_w hp]; simp only [oLen, hu]; rfl
    | p => rw [hp] at h2; cases h2
    | e => rw [hp] at h2; cases h2
    | a => rw [hp] at h2; cases h2
    | t => rw [hp] at h2; cases h2
    | no => rw [hp] at h2; cases h2
  · rename_i hu
    intro f S a h
    obtain ⟨b, h1, h2⟩ := bnd_some h
    rw [opG_ok] at h1
    simp only [exec1, ho, callA, hc, ha, ht, h1]
    unfold lenT at h2
    cases hp : b.sv with
    | s l =>
      rw [hp] at h2; injection h2 with h2; subst h2
      obtain ⟨s, rfl, rfl⟩ := sv_s hp
      simp only [oLen, hu, lenR_eq]; rfl
    | b => rw [hp] at h2; cases h2
    | i => rw [hp] at h2; cases h2
    | no => rw [hp] at h2; cases h2
  · exact slowV_ok (by simp [isLook, ho, hc])
/-- Slices. -/
structure NB where
  n : T AV → Nat → Option Nat
def noNB : NB := ⟨fun _ d => some d⟩
def atNB (g : GB) : NB := ⟨fun f _ => Option.rec (motive := fun _ => Option Nat) none (fun a => natOf a.sv) (g.g f)⟩
def opNB (G : Gl) (x : Option Operand) : NB := match x with
  | none => noNB
  | some x => atNB (opG G x)
theorem opNB_ok {G : Gl} {x : Option Operand} {f : T AV} {d n : Nat} (h : (opNB G x).n f d = some n) : ∃ l, mapO (evalO G f) x.toList = some l ∧ boundA l.head? d = some n := by
  cases x with
  | none => injection h with h; subst h; exact ⟨[], rfl, rfl⟩
  | some x =>
    have h : Option.rec (motive := fun _ => Option Nat) none (fun a => natOf a.sv) ((opG G x).g f) = some n := h
    cases hx : (opG G x).g f with
    | none => rw [hx] at h; cases h
    | some a =>
      rw [hx] at h
      have h : natOf a.sv = some n := h
      obtain ⟨k, rfl⟩ := natOf_some h
      rw [opG_ok] at hx
      exact ⟨[.v (.int k (n : Int))], by simp only [Option.toList, mapO, hx], by simp only [List.head?_cons, boundA, if_pos (show (0 : Int) ≤ (n : Int) by omega), Int.toNat_natCast]⟩
def slQ (tok off sz l h : Nat) (es r : List AV) : Option AV := Bool.rec (motive := fun _ => Option AV)
  (Bool.rec (motive := fun _ => Option AV) (bndL (fun q => some (.sl 0 0 sz q)) (takeR (Nat.sub h l) r)) (some (.sl tok (Nat.add off (Nat.mul l sz)) sz r)) (Nat.beq h (lenR es)))
  (some (.sl 0 0 sz [])) (Nat.beq l h)
def slRow (tok off sz l h : Nat) (es : List AV) : Option AV := Bool.rec (motive := fun _ => Option AV) none (Bool.rec (motive := fun _ => Option AV) none (bndL (slQ tok off sz l h es) (dropR l es)) (Nat.ble h (lenR es))) (Nat.ble l h)
def slStr (l h : Nat) (s : List UInt8) : Option AV := Bool.rec (motive := fun _ => Option AV) none (Option.rec (motive := fun _ => Option AV) none (fun r => Option.rec (motive := fun _ => Option AV) none (fun q => some (.v (.string ⟨⟨q⟩⟩))) (takeR (Nat.sub h l) r)) (dropR l s)) (Nat.ble l h)
def slP2 (n : Nat) (lo hi : NB) (f : T AV) (a : AV) : Option AV := PV.rec (motive := fun _ => Option AV) (fun _ _ => none) (fun _ => none) none
  (fun tok off sz es => Bool.rec (motive := fun _ => Option AV) none (bndN (fun l => bndN (fun h => slRow tok off sz l h es) (hi.n f (lenR es))) (lo.n f 0)) (Nat.beq n sz)) (fun _ => none) (fun _ => none) none (fun _ _ _ _ => none) a.pv
def slT2 (lo hi : NB) (f : T AV) (a : AV) : Option AV := SV.rec (motive := fun _ => Option AV) (fun _ => none) (fun _ _ => none) (fun s => bndN (fun l => bndN (fun h => slStr l h s) (hi.n f (lenR s))) (lo.n f 0)) none a.sv
def orSlow (sl : VB) (h : T AV → AV → Option AV) (g : GB) : VB := ⟨fun f S => bnd (fun a => Option.rec (motive := fun _ => Option AV) (sl.v f S) (fun r => some r) (h f a)) (g.g f)⟩
theorem orSlow_ok {E : Env} {o : Oper} {h : T AV → AV → Option AV} {x : Operand} (hl : isLook o = true) (hh : ∀ f S a r, evalO E.G f x = some a → h f a = some r → exec1 E f S o = .val r S) : VOk E o (orSlow (slowV E o) h (opG E.G x)) := fun f S a e => by
  obtain ⟨b, h1, h2⟩ := bnd_some e
  cases hq : h f b with
  | none => rw [hq] at h2; exact slowV_ok hl f S a h2
  | some r =>
    rw [hq] at h2
    injection h2 with h2; subst h2
    rw [opG_ok] at h1
    exact hh f S b _ h1 hq
def sliceV (E : Env) (o : Oper) (t : TypeId) (x : Operand) (lo hi : Option Operand) : VB := match elemT E.P t with
  | some (none, e) => match sizeT E.P e with
    | some n => orSlow (slowV E o) (slP2 n (opNB E.G lo) (opNB E.G hi)) (opG E.G x)
    | none => slowV E o
  | _ => match E.P.underlying t with
    | some .string => orSlow (slowV E o) (slT2 (opNB E.G lo) (opNB E.G hi)) (opG E.G x)
    | _ => slowV E o
theorem ble_dec (a b : Nat) : Nat.ble a b = decide (a ≤ b) := by
  cases h : Nat.ble a b with
  | true => rw [decide_eq_true (Nat.le_of_ble_eq_true h)]
  | false => symm; rw [decide_eq_false_iff_not]; intro hle; rw [Nat.ble_eq_true_of_le hle] at h; cases h
theorem sliceV_ok {E : Env} {o : Oper} {t : TypeId} {x : Operand} {lo hi : Option Operand} (ho : o.op = .slice t x lo hi none) : VOk E o (sliceV E o t x lo hi) := by
  have hl : isLook o = true := by simp [isLook, ho]
  unfold sliceV
  split
  · rename_i e he
    split
    · rename_i n hs
      refine orSlow_ok hl fun f S a r hx hr => ?_
      simp only [exec1, ho, hx]
      unfold slP2 at hr
      cases hp : a.pv with
      | l tok off sz es =>
        rw [hp] at hr
        rw [pv_l hp]
        have hr : Bool.rec (motive := fun _ => Option AV) none (bndN (fun l => bndN (fun h => slRow tok off sz l h es) ((opNB E.G hi).n f (lenR es))) ((opNB E.G lo).n f 0)) (Nat.beq n sz) = some r := hr
        cases hb : Nat.beq n sz with
        | false => rw [hb] at hr; cases hr
        | true =>
          rw [hb] at hr
          have hn := Nat.eq_of_beq_eq_true hb
          subst hn
          obtain ⟨l, h1, h2⟩ := bndN_some hr
          obtain ⟨h, h3, h4⟩ := bndN_some h2
          rw [lenR_eq] at h3
          obtain ⟨ll, q1, q2⟩ := opNB_ok h1
          obtain ⟨lh, q3, q4⟩ := opNB_ok h3
          simp only [q1, q3, oSlice, he, hs, q2, q4]
          unfold slRow at h4
          rw [lenR_eq, ble_dec, ble_dec] at h4
          by_cases c1 : l ≤ h
          · by_cases c2 : h ≤ es.length
            · rw [decide_eq_true c1, decide_eq_true c2] at h4
              obtain ⟨rr, h5, h6⟩ := bndL_some h4
              obtain ⟨_, rfl⟩ := dropR_some _ _ _ h5
              rw [if_pos (by simp [c1, c2])]
              unfold slQ at h6
              rw [lenR_eq] at h6
              by_cases c3 : l = h
              · subst c3
                rw [show Nat.beq l l = true from Nat.beq_refl l] at h6
                injection h6 with h6; subst h6
                rw [if_pos (by simp)]; rfl
              · have c4 : Nat.beq l h = false := by rw [beq_dec]; simpa using c3
                rw [c4] at h6
                rw [if_neg (by simpa using c3)]
                by_cases c5 : h = es.length
                · subst c5
                  rw [show Nat.beq es.length es.length = true from Nat.beq_refl _] at h6
                  injection h6 with h6; subst h6
                  rw [if_pos (by simp)]; rfl
                · have c6 : Nat.beq h es.length = false := by rw [beq_dec]; simpa using c5
                  rw [c6] at h6
                  rw [if_neg (by simpa using c5)]
                  obtain ⟨qq, h7, h8⟩ := bndL_some h6
                  obtain ⟨_, rfl⟩ := takeR_some _ _ _ h7
                  injection h8 with h8; subst h8
                  rfl
            · rw [decide_eq_true c1, decide_eq_false c2] at h4; cases h4
          · rw [decide_eq_false c1] at h4; cases h4
      | p => rw [hp] at hr; cases hr
      | e => rw [hp] at hr; cases hr
      | n => rw [hp] at hr; cases hr
      | a => rw [hp] at hr; cases hr
      | t => rw [hp] at hr; cases hr
      | no => rw [hp] at hr; cases hr
      | w => rw [hp] at hr; cases hr
    · exact slowV_ok hl
  · split
    · rename_i hu
      refine orSlow_ok hl fun f S a r hx hr => ?_
      simp only [exec1, ho, hx]
      unfold slT2 at hr
      cases hp : a.sv with
      | s l0 =>
        rw [hp] at hr
        obtain ⟨s, rfl, rfl⟩ := sv_s hp
        obtain ⟨l, h1, h2⟩ := bndN_some hr
        obtain ⟨h, h3, h4⟩ := bndN_some h2
        rw [lenR_eq] at h3
        have h3 : (opNB E.G hi).n f s.size = some h := h3
        obtain ⟨ll, q1, q2⟩ := opNB_ok h1
        obtain ⟨lh, q3, q4⟩ := opNB_ok h3
        simp only [q1, q3, fastSlice, hu, q2, q4]
        unfold slStr at h4
        rw [ble_dec] at h4
        by_cases c1 : l ≤ h
        · rw [decide_eq_true c1] at h4
          have h4 : Option.rec (motive := fun _ => Option AV) none (fun r => Option.rec (motive := fun _ => Option AV) none (fun q => some (.v (.string ⟨⟨q⟩⟩))) (takeR (Nat.sub h l) r)) (dropR l s.data.toList) = some r := h4
          cases hd : dropR l s.data.toList with
          | none => rw [hd] at h4; cases h4
          | some rr =>
            rw [hd] at h4
            have h4 : Option.rec (motive := fun _ => Option AV) none (fun q => some (.v (.string ⟨⟨q⟩⟩))) (takeR (Nat.sub h l) rr) = some r := h4
            cases ht : takeR (Nat.sub h l) rr with
            | none => rw [ht] at h4; cases h4
            | some q =>
              rw [ht] at h4
              injection h4 with h4; subst h4
              obtain ⟨k1, rfl⟩ := dropR_some _ _ _ hd
              obtain ⟨k2, rfl⟩ := takeR_some _ _ _ ht
              have k3 : h ≤ s.size := by
                have : s.size = s.data.toList.length := rfl
                simp only [Nat.sub_eq, List.length_drop] at k2
                omega
              rw [show Nat.ble l h = true by rw [ble_dec, decide_eq_true c1], show Nat.ble h s.size = true by rw [ble_dec, decide_eq_true k3]]
              rfl
        · rw [decide_eq_false c1] at h4; cases h4
      | b => rw [hp] at hr; cases hr
      | i => rw [hp] at hr; cases hr
      | no => rw [hp] at hr; cases hr
    · exact slowV_ok hl
/-- Whatever look it is. -/
def callV (E : Env) (o : Oper) (c : Call) : VB := match c.callee, c.args.toList, c.argTypes.toList with
  | .builtin .len, [x], [t] => lenV E o t (opG E.G x)
  | _, _, _ => slowV E o
def valV (E : Env) (o : Oper) : VB := match o.op with
  | .move x => moveV (opG E.G x)
  | .assign x => moveV (opG E.G x)
  | .pick c x y => pickV (opG E.G c) (opG E.G x) (opG E.G y)
  | .build t ps => buildV E o t ps.toList
  | .buildSlice t len ps => rowV E o t len ps.toList
  | .load t x => loadV E.P t (opG E.G x)
  | .nilCheck x => nilV (opG E.G x)
  | .binOp op t x y _ => binV E o op (opG E.G x) (opG E.G y)
  | .makeInterface t x => makeIV E.P t (opG E.G x)
  | .slice t x lo hi none => sliceV E o t x lo hi
  | .fieldAddr t x i => faddrV E.P t i (opG E.G x)
  | .field t x i => fieldV E.P t i (opG E.G x)
  | .indexAddr t x i => iaddrV E.P t (opG E.G x) (opG E.G i)
  | .index t x i => indexV E o t (opG E.G x) (opG E.G i)
  | .extract x i => extrV i (opG E.G x)
  | .call c => callV E o c
  | _ => slowV E o
theorem valV_ok {E : Env} {o : Oper} (hl : isLook o = true) : VOk E o (valV E o) := by
  have hm : ∀ x, (∀ f S, exec1 E f S o = ofOpt S (evalO E.G f x)) → VOk E o (moveV (opG E.G x)) := fun x he f S a h => by
    have h : (opG E.G x).g f = some a := h
    rw [opG_ok] at h
    rw [he, h]; rfl
  unfold valV
  split
  · rename_i x ho; exact hm x fun f S => by simp only [exec1, ho]
  · rename_i x ho; exact hm x fun f S => by simp only [exec1, ho]
  · rename_i ho; exact pickV_ok ho
  · rename_i ho; exact buildV_ok ho
  · rename_i ho; exact rowV_ok ho
  · rename_i ho; exact loadV_ok ho
  · rename_i ho; exact nilV_ok ho
  · rename_i ho; exact binV_ok ho
  · rename_i ho; exact makeIV_ok ho
  · rename_i ho; exact sliceV_ok ho
  · rename_i ho; exact faddrV_ok ho
  · rename_i ho; exact fieldV_ok ho
  · rename_i ho; exact iaddrV_ok ho
  · rename_i ho; exact indexV_ok ho
  · rename_i ho; exact extrV_ok ho
  · rename_i c ho
    unfold callV
    split
    · rename_i hc ha ht; exact lenV_ok ho hc ha ht
    · exact slowV_ok hl
  · exact slowV_ok hl
end Go.Ax
