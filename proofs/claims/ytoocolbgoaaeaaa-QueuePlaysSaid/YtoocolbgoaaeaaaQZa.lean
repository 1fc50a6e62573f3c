/-
  More operations made ready; operations that write, calls; code; functions: all runs are the slow ones.
-/
import Derived.Test.YtoocolbgoaaeaaaQXa
noncomputable section
namespace Go.Ax
open Go.RowKit
set_option linter.unusedVariables false
set_option linter.unusedSimpArgs false

/-- Structs and rows built of parts. -/
structure PB where
  off : Nat
  size : Nat
  g : GB
def noTupR (a : AV) : Bool := PV.rec (motive := fun _ => Bool) (fun _ _ => true) (fun _ => true) true (fun _ _ _ _ => true) (fun _ => true) (fun _ => false) true (fun _ _ _ _ => true) a.pv
theorem noTupR_eq (a : AV) : noTupR a = a.noTup := by cases a <;> rfl
def okPart (a : AV) (size : Nat) : Bool := Bool.rec (motive := fun _ => Bool) false (Nat.beq (lenR (cellsR a)) size) (noTupR a)
theorem okPart_true {a : AV} {size : Nat} (h : okPart a size = true) : a.noTup = true ∧ a.cells.length = size := by
  unfold okPart at h
  rw [noTupR_eq, lenR_eq, cellsR_eq] at h
  cases hn : a.noTup with
  | false => rw [hn] at h; cases h
  | true => rw [hn] at h; exact ⟨rfl, Nat.eq_of_beq_eq_true h⟩
def fill1 (off size : Nat) (ih : List AV → Option (List AV)) (cs : List AV) (a : AV) : Option (List AV) := Bool.rec (motive := fun _ => Option (List AV)) none (Option.rec (motive := fun _ => Option (List AV)) none ih (overAtR off (cellsR a) cs)) (okPart a size)
def buildL (l : List PB) (f : T AV) : List AV → Option (List AV) := List.rec (motive := fun _ => List AV → Option (List AV)) (fun cs => some cs) (fun p _ ih cs => Option.rec (motive := fun _ => Option (List AV)) none (fill1 p.off p.size ih cs) (p.g.g f)) l
def placesL (G : Gl) (pl : List (Nat × Nat)) : List (Nat × Operand) → Option (List PB)
  | [] => some []
  | (i, x) :: r => match pl[i]?, placesL G pl r with
    | some (off, size), some l => some (⟨off, size, opG G x⟩ :: l)
    | _, _ => none
theorem buildL_ok {G : Gl} {pl : List (Nat × Nat)} {f : T AV} : ∀ {parts : List (Nat × Operand)} {l : List PB} {cs r : List AV}, placesL G pl parts = some l → buildL l f cs = some r → ∃ ps, partsA G f parts = some ps ∧ fillA (fun i => pl[i]?) cs ps = some r
  | [], l, cs, r, h, hb => by
    injection h with h; subst h
    injection hb with hb; subst hb
    exact ⟨[], rfl, rfl⟩
  | (i, x) :: rest, l, cs, r, h, hb => by
    unfold placesL at h
    split at h
    · rename_i off size l' hp hl
      injection h with h; subst h
      have hb : Option.rec (motive := fun _ => Option (List AV)) none (fill1 off size (buildL l' f) cs) ((opG G x).g f) = some r := hb
      cases hx : (opG G x).g f with
      | none => rw [hx] at hb; cases hb
      | some a =>
        rw [hx] at hb
        have hb : fill1 off size (buildL l' f) cs a = some r := hb
        unfold fill1 at hb
        cases hk : okPart a size with
        | false => rw [hk] at hb; cases hb
        | true =>
          rw [hk] at hb
          have hb : Option.rec (motive := fun _ => Option (List AV)) none (buildL l' f) (overAtR off (cellsR a) cs) = some r := hb
          cases ho : overAtR off (cellsR a) cs with
          | none => rw [ho] at hb; cases hb
          | some q =>
            rw [ho] at hb
            have hb : buildL l' f q = some r := hb
            obtain ⟨ps, h1, h2⟩ := buildL_ok hl hb
            obtain ⟨k1, k2⟩ := okPart_true hk
            obtain ⟨k3, k4⟩ := overAtR_some _ _ _ _ ho
            rw [cellsR_eq] at k3 k4
            rw [opG_ok] at hx
            refine ⟨(i, a) :: ps, by simp only [partsA, hx, h1], ?_⟩
            simp only [fillA, hp, k1, k2, beq_self_eq_true, Bool.true_and]
            rw [if_pos (by simpa using (by omega : off + size ≤ cs.length))]
            unfold splice
            rw [← k4]; exact h2
    · cases h
def buildB (l : List PB) (z : List AV) : VB := ⟨fun f _ => aggO (buildL l f z)⟩
def buildV (E : Env) (o : Oper) (t : TypeId) (parts : List (Nat × Operand)) : VB := match zeroA E.P t, fieldsOf E.P t with
  | some z, some fs => match placesA E.P fs.toList with
    | some pl => match placesL E.G pl parts with
      | some l => if z.noTup then buildB l z.cells else slowV E o
      | none => slowV E o
    | none => slowV E o
  | _, _ => slowV E o
theorem buildV_ok {E : Env} {o : Oper} {t : TypeId} {ps : Array (Nat × Operand)} (ho : o.op = .build t ps) : VOk E o (buildV E o t ps.toList) := by
  have slow : VOk E o (slowV E o) := slowV_ok (by simp [isLook, ho])
  unfold buildV
  split
  · rename_i z fs hz hf
    split
    · rename_i pl hpl
      split
      · rename_i l hl
        split
        · rename_i hn
          intro f S a h
          obtain ⟨cs, h1, h2⟩ := bndL_some h
          injection h2 with h2; subst h2
          obtain ⟨qs, k1, k2⟩ := buildL_ok hl h1
          simp only [exec1, ho, k1, oBuild, hz, hf, hpl, k2, if_pos hn, ofOpt]
        · exact slow
      · exact slow
    · exact slow
  · exact slow
def valsL (n : Nat) (l : List GB) (f : T AV) : Option (List AV) := List.rec (motive := fun _ => Option (List AV)) (some []) (fun g _ ih => Option.rec (motive := fun _ => Option (List AV)) none (fun a => Bool.rec (motive := fun _ => Option (List AV)) none (consO a ih) (okPart a n)) (g.g f)) l
theorem valsL_ok {G : Gl} {n : Nat} {f : T AV} : ∀ {parts : List (Nat × Operand)} {r : List AV}, valsL n (parts.map fun p => opG G p.2) f = some r → ∃ ps, partsA G f parts = some ps ∧ ps.map (·.1) = parts.map (·.1) ∧ ps.map (·.2) = r ∧ (ps.all fun p => p.2.noTup && p.2.cells.length == n) = true
  | [], r, h => by injection h with h; subst h; exact ⟨[], rfl, rfl, rfl, rfl⟩
  | (i, x) :: rest, r, h => by
    have h : Option.rec (motive := fun _ => Option (List AV)) none (fun a => Bool.rec (motive := fun _ => Option (List AV)) none (consO a (valsL n (rest.map fun p => opG G p.2) f)) (okPart a n)) ((opG G x).g f) = some r := h
    cases hx : (opG G x).g f with
    | none => rw [hx] at h; cases h
    | some a =>
      rw [hx] at h
      have h : Bool.rec (motive := fun _ => Option (List AV)) none (consO a (valsL n (rest.map fun p => opG G p.2) f)) (okPart a n) = some r := h
      cases hk : okPart a n with
      | false => rw [hk] at h; cases h
      | true =>
        rw [hk] at h
        have h : consO a (valsL n (rest.map fun p => opG G p.2) f) = some r := h
        cases hq : valsL n (rest.map fun p => opG G p.2) f with
        | none => rw [hq] at h; cases h
        | some q =>
          rw [hq] at h
          have h : some (a :: q) = some r := h
          injection h with h; subst h
          obtain ⟨ps, h1, h2, h3, h4⟩ := valsL_ok hq
          obtain ⟨k1, k2⟩ := okPart_true hk
          rw [opG_ok] at hx
          exact ⟨(i, a) :: ps, by simp only [partsA, hx, h1], by simp [h2], by simp [h3], by simp only [List.all_cons, k1, k2, h4, beq_self_eq_true, Bool.and_self]⟩
def rowB (n : Nat) (l : List GB) : VB := ⟨fun f _ => bndL (fun vs => some (.sl 1 0 n vs)) (valsL n l f)⟩
def rowV (E : Env) (o : Oper) (t : TypeId) (len : Nat) (parts : List (Nat × Operand)) : VB := match elemT E.P t with
  | some (none, e) => match sizeT E.P e, zeroA E.P e with
    | some (k + 1), some _ => if parts.map (·.1) = List.range len ∧ len * (k + 1) ≤ 16777216 then rowB (k + 1) (parts.map fun p => opG E.G p.2) else slowV E o
    | _, _ => slowV E o
  | _ => slowV E o
theorem rowV_ok {E : Env} {o : Oper} {t : TypeId} {len : Nat} {ps : Array (Nat × Operand)} (ho : o.op = .buildSlice t len ps) : VOk E o (rowV E o t len ps.toList) := by
  have slow : VOk E o (slowV E o) := slowV_ok (by simp [isLook, ho])
  unfold rowV
  split
  · rename_i e he
    split
    · rename_i k z hs hz
      split
      · rename_i hc
        intro f S a h
        obtain ⟨vs, h1, h2⟩ := bndL_some h
        injection h2 with h2; subst h2
        obtain ⟨qs, k1, k2, k3, k4⟩ := valsL_ok h1
        simp only [exec1, ho, k1, oBuildSlice, he, hs, hz, k2, k3, hc.1, k4, beq_self_eq_true, Bool.and_self, Bool.true_and, decide_eq_true_eq, if_pos hc.2, ofOpt]
      · exact slow
    · exact slow
  · exact slow
/-- Lengths. -/
def lenP (a : AV) : Option AV := PV.rec (motive := fun _ => Option AV) (fun _ _ => none) (fun _ => none) (some (.v (.int .i64 (.ofNat 0)))) (fun _ _ _ es => some (.v (.int .i64 (.ofNat (lenR es))))) (fun _ => none) (fun _ => none) none (fun _ _ n _ => some (.v (.int .i64 (.ofNat n)))) a.pv
def lenT (a : AV) : Option AV := SV.rec (motive := fun _ => Option AV) (fun _ => none) (fun _ _ => none) (fun l => some (.v (.int .i64 (.ofNat (lenR l))))) none a.sv
def lenPV (g : GB) : VB := ⟨fun f _ => bnd lenP (g.g f)⟩
def lenTV (g : GB) : VB := ⟨fun f _ => bnd lenT (g.g f)⟩
def lenV (E : Env) (o : Oper) (t : TypeId) (g : GB) : VB := match E.P.underlying t with
  | some (.slice _) => lenPV g
  | some .string => lenTV g
  | _ => slowV E o
theorem lenV_ok {E : Env} {o : Oper} {c : Call} {t : TypeId} {x : Operand} (ho : o.op = .call c) (hc : c.callee = .builtin .len) (ha : c.args.toList = [x]) (ht : c.argTypes.toList = [t]) : VOk E o (lenV E o t (opG E.G x)) := by
  unfold lenV
  split
  · rename_i e hu
    intro f S a h
    obtain ⟨b, h1, h2⟩ := bnd_some h
    rw [opG_ok] at h1
    simp only [exec1, ho, callA, hc, ha, ht, h1]
    unfold lenP at h2
    cases hp : b.pv with
    | n => rw [hp] at h2; injection h2 with h2; subst h2; rw [pv_n hp]; simp only [oLen, hu]; rfl
    | l tok off sz es => rw [hp] at h2; injection h2 with h2; subst h2; rw [pv_l hp]; simp only [oLen, hu, lenR_eq]; rfl
    | w id off n sz => rw [hp] at h2; injection h2 with h2; subst h2; rw [pv_w hp]; simp only [oLen, hu]; rfl
    | p => rw [hp] at h2; cases h2
    | e => rw [hp] at h2; cases h2
    | a => rw [hp] at h2; cases h2
    | t => rw [hp] at h2; cases h2
    | no => rw [hp] at h2; cases h2
  · rename_i hu
    intro f S a h
    obtain ⟨b, h1, h2⟩ := bnd_some h
    rw [opG_ok] at h1
    simp only [exec1, ho, callA, hc, ha, ht, h1]
    unfold lenT at h2
    cases hp : b.sv with
    | s l =>
      rw [hp] at h2; injection h2 with h2; subst h2
      obtain ⟨s, rfl, rfl⟩ := sv_s hp
      simp only [oLen, hu, lenR_eq]; rfl
    | b => rw [hp] at h2; cases h2
    | i => rw [hp] at h2; cases h2
    | no => rw [hp] at h2; cases h2
  · exact slowV_ok (by simp [isLook, ho, hc])
/-- Slices. -/
structure NB where
  n : T AV → Nat → Option Nat
def noNB : NB := ⟨fun _ d => some d⟩
def atNB (g : GB) : NB := ⟨fun f _ => Option.rec (motive := fun _ => Option Nat) none (fun a => natOf a.sv) (g.g f)⟩
def opNB (G : Gl) (x : Option Operand) : NB := match x with
  | none => noNB
  | some x => atNB (opG G x)
theorem opNB_ok {G : Gl} {x : Option Operand} {f : T AV} {d n : Nat} (h : (opNB G x).n f d = some n) : ∃ l, mapO (evalO G f) x.toList = some l ∧ boundA l.head? d = some n := by
  cases x with
  | none => injection h with h; subst h; exact ⟨[], rfl, rfl⟩
  | some x =>
    have h : Option.rec (motive := fun _ => Option Nat) none (fun a => natOf a.sv) ((opG G x).g f) = some n := h
    cases hx : (opG G x).g f with
    | none => rw [hx] at h; cases h
    | some a =>
      rw [hx] at h
      have h : natOf a.sv = some n := h
      obtain ⟨k, rfl⟩ := natOf_some h
      rw [opG_ok] at hx
      exact ⟨[.v (.int k (n : Int))], by simp only [Option.toList, mapO, hx], by simp only [List.head?_cons, boundA, if_pos (show (0 : Int) ≤ (n : Int) by omega), Int.toNat_natCast]⟩
def slQ (tok off sz l h : Nat) (es r : List AV) : Option AV := Bool.rec (motive := fun _ => Option AV)
  (Bool.rec (motive := fun _ => Option AV) (bndL (fun q => some (.sl 0 0 sz q)) (takeR (Nat.sub h l) r)) (some (.sl tok (Nat.add off (Nat.mul l sz)) sz r)) (Nat.beq h (lenR es)))
  (some (.sl 0 0 sz [])) (Nat.beq l h)
def slRow (tok off sz l h : Nat) (es : List AV) : Option AV := Bool.rec (motive := fun _ => Option AV) none (Bool.rec (motive := fun _ => Option AV) none (bndL (slQ tok off sz l h es) (dropR l es)) (Nat.ble h (lenR es))) (Nat.ble l h)
def slStr (l h : Nat) (s : List UInt8) : Option AV := Bool.rec (motive := fun _ => Option AV) none (Option.rec (motive := fun _ => Option AV) none (fun r => Option.rec (motive := fun _ => Option AV) none (fun q => some (.v (.string ⟨⟨q⟩⟩))) (takeR (Nat.sub h l) r)) (dropR l s)) (Nat.ble l h)
def slP2 (n : Nat) (lo hi : NB) (f : T AV) (a : AV) : Option AV := PV.rec (motive := fun _ => Option AV) (fun _ _ => none) (fun _ => none) none
  (fun tok off sz es => Bool.rec (motive := fun _ => Option AV) none (bndN (fun l => bndN (fun h => slRow tok off sz l h es) (hi.n f (lenR es))) (lo.n f 0)) (Nat.beq n sz)) (fun _ => none) (fun _ => none) none (fun _ _ _ _ => none) a.pv
def slT2 (lo hi : NB) (f : T AV) (a : AV) : Option AV := SV.rec (motive := fun _ => Option AV) (fun _ => none) (fun _ _ => none) (fun s => bndN (fun l => bndN (fun h => slStr l h s) (hi.n f (lenR s))) (lo.n f 0)) none a.sv
def orSlow (sl : VB) (h : T AV → AV → Option AV) (g : GB) : VB := ⟨fun f S => bnd (fun a => Option.rec (motive := fun _ => Option AV) (sl.v f S) (fun r => some r) (h f a)) (g.g f)⟩
theorem orSlow_ok {E : Env} {o : Oper} {h : T AV → AV → Option AV} {x : Operand} (hl : isLook o = true) (hh : ∀ f S a r, evalO E.G f x = some a → h f a = some r → exec1 E f S o = .val r S) : VOk E o (orSlow (slowV E o) h (opG E.G x)) := fun f S a e => by
  obtain ⟨b, h1, h2⟩ := bnd_some e
  cases hq : h f b with
  | none => rw [hq] at h2; exact slowV_ok hl f S a h2
  | some r =>
    rw [hq] at h2
    injection h2 with h2; subst h2
    rw [opG_ok] at h1
    exact hh f S b _ h1 hq
def sliceV (E : Env) (o : Oper) (t : TypeId) (x : Operand) (lo hi : Option Operand) : VB := match elemT E.P t with
  | some (none, e) => match sizeT E.P e with
    | some n => orSlow (slowV E o) (slP2 n (opNB E.G lo) (opNB E.G hi)) (opG E.G x)
    | none => slowV E o
  | _ => match E.P.underlying t with
    | some .string => orSlow (slowV E o) (slT2 (opNB E.G lo) (opNB E.G hi)) (opG E.G x)
    | _ => slowV E o
theorem ble_dec (a b : Nat) : Nat.ble a b = decide (a ≤ b) := by
  cases h : Nat.ble a b with
  | true => rw [decide_eq_true (Nat.le_of_ble_eq_true h)]
  | false => symm; rw [decide_eq_false_iff_not]; intro hle; rw [Nat.ble_eq_true_of_le hle] at h; cases h
theorem sliceV_ok {E : Env} {o : Oper} {t : TypeId} {x : Operand} {lo hi : Option Operand} (ho : o.op = .slice t x lo hi none) : VOk E o (sliceV E o t x lo hi) := by
  have hl : isLook o = true := by simp [isLook, ho]
  unfold sliceV
  split
  · rename_i e he
    split
    · rename_i n hs
      refine orSlow_ok hl fun f S a r hx hr => ?_
      simp only [exec1, ho, hx]
      unfold slP2 at hr
      cases hp : a.pv with
      | l tok off sz es =>
        rw [hp] at hr
        rw [pv_l hp]
        have hr : Bool.rec (motive := fun _ => Option AV) none (bndN (fun l => bndN (fun h => slRow tok off sz l h es) ((opNB E.G hi).n f (lenR es))) ((opNB E.G lo).n f 0)) (Nat.beq n sz) = some r := hr
        cases hb : Nat.beq n sz with
        | false => rw [hb] at hr; cases hr
        | true =>
          rw [hb] at hr
          have hn := Nat.eq_of_beq_eq_true hb
          subst hn
          obtain ⟨l, h1, h2⟩ := bndN_some hr
          obtain ⟨h, h3, h4⟩ := bndN_some h2
          rw [lenR_eq] at h3
          obtain ⟨ll, q1, q2⟩ := opNB_ok h1
          obtain ⟨lh, q3, q4⟩ := opNB_ok h3
          simp only [q1, q3, oSlice, he, hs, q2, q4]
          unfold slRow at h4
          rw [lenR_eq, ble_dec, ble_dec] at h4
          by_cases c1 : l ≤ h
          · by_cases c2 : h ≤ es.length
            · rw [decide_eq_true c1, decide_eq_true c2] at h4
              obtain ⟨rr, h5, h6⟩ := bndL_some h4
              obtain ⟨_, rfl⟩ := dropR_some _ _ _ h5
              rw [if_pos (by simp [c1, c2])]
              unfold slQ at h6
              rw [lenR_eq] at h6
              by_cases c3 : l = h
              · subst c3
                rw [show Nat.beq l l = true from Nat.beq_refl l] at h6
                injection h6 with h6; subst h6
                rw [if_pos (by simp)]; rfl
              · have c4 : Nat.beq l h = false := by rw [beq_dec]; simpa using c3
                rw [c4] at h6
                rw [if_neg (by simpa using c3)]
                by_cases c5 : h = es.length
                · subst c5
                  rw [show Nat.beq es.length es.length = true from Nat.beq_refl _] at h6
                  injection h6 with h6; subst h6
                  rw [if_pos (by simp)]; rfl
                · have c6 : Nat.beq h es.length = false := by rw [beq_dec]; simpa using c5
                  rw [c6] at h6
                  rw [if_neg (by simpa using c5)]
                  obtain ⟨qq, h7, h8⟩ := bndL_some h6
                  obtain ⟨_, rfl⟩ := takeR_some _ _ _ h7
                  injection h8 with h8; subst h8
                  rfl
            · rw [decide_eq_true c1, decide_eq_false c2] at h4; cases h4
          · rw [decide_eq_false c1] at h4; cases h4
      | p => rw [hp] at hr; cases hr
      | e => rw [hp] at hr; cases hr
      | n => rw [hp] at hr; cases hr
      | a => rw [hp] at hr; cases hr
      | t => rw [hp] at hr; cases hr
      | no => rw [hp] at hr; cases hr
      | w => rw [hp] at hr; cases hr
    · exact slowV_ok hl
  · split
    · rename_i hu
      refine orSlow_ok hl fun f S a r hx hr => ?_
      simp only [exec1, ho, hx]
      unfold slT2 at hr
      cases hp : a.sv with
      | s l0 =>
        rw [hp] at hr
        obtain ⟨s, rfl, rfl⟩ := sv_s hp
        obtain ⟨l, h1, h2⟩ := bndN_some hr
        obtain ⟨h, h3, h4⟩ := bndN_some h2
        rw [lenR_eq] at h3
        have h3 : (opNB E.G hi).n f s.size = some h := h3
        obtain ⟨ll, q1, q2⟩ := opNB_ok h1
        obtain ⟨lh, q3, q4⟩ := opNB_ok h3
        simp only [q1, q3, fastSlice, hu, q2, q4]
        unfold slStr at h4
        rw [ble_dec] at h4
        by_cases c1 : l ≤ h
        · rw [decide_eq_true c1] at h4
          have h4 : Option.rec (motive := fun _ => Option AV) none (fun r => Option.rec (motive := fun _ => Option AV) none (fun q => some (.v (.string ⟨⟨q⟩⟩))) (takeR (Nat.sub h l) r)) (dropR l s.data.toList) = some r := h4
          cases hd : dropR l s.data.toList with
          | none => rw [hd] at h4; cases h4
          | some rr =>
            rw [hd] at h4
            have h4 : Option.rec (motive := fun _ => Option AV) none (fun q => some (.v (.string ⟨⟨q⟩⟩))) (takeR (Nat.sub h l) rr) = some r := h4
            cases ht : takeR (Nat.sub h l) rr with
            | none => rw [ht] at h4; cases h4
            | some q =>
              rw [ht] at h4
              injection h4 with h4; subst h4
              obtain ⟨k1, rfl⟩ := dropR_some _ _ _ hd
              obtain ⟨k2, rfl⟩ := takeR_some _ _ _ ht
              have k3 : h ≤ s.size := by
                have : s.size = s.data.toList.length := rfl
                simp only [Nat.sub_eq, List.length_drop] at k2
                omega
              rw [show Nat.ble l h = true by rw [ble_dec, decide_eq_true c1], show Nat.ble h s.size = true by rw [ble_dec, decide_eq_true k3]]
              rfl
        · rw [decide_eq_false c1] at h4; cases h4
      | b => rw [hp] at hr; cases hr
      | i => rw [hp] at hr; cases hr
      | no => rw [hp] at hr; cases hr
    · exact slowV_ok hl
/-- Whatever look it is. -/
def callV (E : Env) (o : Oper) (c : Call) : VB := match c.callee, c.args.toList, c.argTypes.toList with
  | .builtin .len, [x], [t] => lenV E o t (opG E.G x)
  | _, _, _ => slowV E o
def valV (E : Env) (o : Oper) : VB := match o.op with
  | .move x => moveV (opG E.G x)
  | .assign x => moveV (opG E.G x)
  | .pick c x y => pickV (opG E.G c) (opG E.G x) (opG E.G y)
  | .build t ps => buildV E o t ps.toList
  | .buildSlice t len ps => rowV E o t len ps.toList
  | .load t x => loadV E.P t (opG E.G x)
  | .nilCheck x => nilV (opG E.G x)
  | .binOp op t x y _ => binV E o op (opG E.G x) (opG E.G y)
  | .makeInterface t x => makeIV E.P t (opG E.G x)
  | .slice t x lo hi none => sliceV E o t x lo hi
  | .fieldAddr t x i => faddrV E.P t i (opG E.G x)
  | .field t x i => fieldV E.P t i (opG E.G x)
  | .indexAddr t x i => iaddrV E.P t (opG E.G x) (opG E.G i)
  | .index t x i => indexV E o t (opG E.G x) (opG E.G i)
  | .extract x i => extrV i (opG E.G x)
  | .call c => callV E o c
  | _ => slowV E o
theorem valV_ok {E : Env} {o : Oper} (hl : isLook o = true) : VOk E o (valV E o) := by
  have hm : ∀ x, (∀ f S, exec1 E f S o = ofOpt S (evalO E.G f x)) → VOk E o (moveV (opG E.G x)) := fun x he f S a h => by
    have h : (opG E.G x).g f = some a := h
    rw [opG_ok] at h
    rw [he, h]; rfl
  unfold valV
  split
  · rename_i x ho; exact hm x fun f S => by simp only [exec1, ho]
  · rename_i x ho; exact hm x fun f S => by simp only [exec1, ho]
  · rename_i ho; exact pickV_ok ho
  · rename_i ho; exact buildV_ok ho
  · rename_i ho; exact rowV_ok ho
  · rename_i ho; exact loadV_ok ho
  · rename_i ho; exact nilV_ok ho
  · rename_i ho; exact binV_ok ho
  · rename_i ho; exact makeIV_ok ho
  · rename_i ho; exact sliceV_ok ho
  · rename_i ho; exact faddrV_ok ho
  · rename_i ho; exact fieldV_ok ho
  · rename_i ho; exact iaddrV_ok ho
  · rename_i ho; exact indexV_ok ho
  · rename_i ho; exact extrV_ok ho
  · rename_i c ho
    unfold callV
    split
    · rename_i hc ha ht; exact lenV_ok ho hc ha ht
    · exact slowV_ok hl
  · exact slowV_ok hl
end Go.Ax
noncomputable section
namespace Go.Ax
open Go.RowKit
set_option linter.unusedVariables false
set_option linter.unusedSimpArgs false

def contX (k : Ck) (ck : CallK) (r : O) : O := O.rec (motive := fun _ => O) (fun e f S => Ex.rec (motive := fun _ => O) (k ck f.tmps f.dfr S) (fun i => .out (.exit i) f S) (.out .ret f S) (fun a => .out (.pan a) f S) e) .fail r
def failB : Bx := ⟨fun _ _ _ _ => .fail⟩
def normB : Bx := ⟨fun _ t d S => .out .normal ⟨t, d⟩ S⟩
def idS : SB := ⟨fun t _ => t⟩
def dstS (n : Nat) (dst : Option Tmp) : Option SB := match dst with
  | none => some idS
  | some d => if d < n then some (setS d) else none
theorem dstS_ok {n : Nat} {dst : Option Tmp} {s : SB} (h : dstS n dst = some s) (t : T AV) (d : List Dfr) (a : AV) (S : St) : putA n ⟨t, d⟩ dst a S = .out .normal ⟨s.s t a, d⟩ S := by
  cases dst with
  | none => injection h with h; subst h; rfl
  | some x =>
    simp only [dstS] at h
    split at h
    · rename_i hx
      injection h with h; subst h
      simp only [putA, if_pos hx, setS_ok]
    · cases h
def Rf (x y : O) : Prop := x = .fail ∨ x = y
theorem Rf.refl (x : O) : Rf x x := .inr rfl
def CkF (E : Env) (ck : CallK) : Prop := ∀ k args S, ck k args S ≠ .fail → (E.F k).isSome = true
/-- An operation that is wanted. -/
def stepT (E : Env) (callK : CallK) (n : Nat) (o : Oper) (f : Fr) (S : St) : O := match exec1 E f.tmps S o with
    | .val a S' => putA n f o.dst a S'
    | .skip S' => putA n f o.dst (.tup []) S'
    | .enter k args S' => match callK k args S' with
      | .ret a S'' => putA n f o.dst a S''
      | .pan a S'' => .out (.pan a) f S''
      | .fail => .fail
    | .dfr fn caps args S' => putA n { f with dfr := ⟨fn, caps, args⟩ :: f.dfr } o.dst (.tup []) S'
    | .pan a S' => .out (.pan a) f S'
    | .fail => .fail
def retX (s : SB) (k : Bx) (ck : CallK) (t : T AV) (d : List Dfr) (r : R) : O := R.rec (motive := fun _ => O) (fun a S => k.c ck (s.s t a) d S) (fun a S => .out (.pan a) ⟨t, d⟩ S) .fail r
def yieldX (s : SB) (k : Bx) (ck : CallK) (t : T AV) (d : List Dfr) (r : OR) : O := OR.rec (motive := fun _ => O) (fun a S => k.c ck (s.s t a) d S) (fun S => k.c ck (s.s t (.tup [])) d S) (fun f args S => retX s k ck t d (ck f args S)) (fun fn caps args S => k.c ck (s.s t (.tup [])) (⟨fn, caps, args⟩ :: d) S) (fun a S => .out (.pan a) ⟨t, d⟩ S) .fail r
def slowC (E : Env) (o : Oper) (s : SB) (k : Bx) : Bx := ⟨fun ck t d S => yieldX s k ck t d (exec1R E t S o)⟩
def lookB (v : VB) (s : SB) (k : Bx) : Bx := ⟨fun ck t d S => Option.rec (motive := fun _ => O) .fail (fun a => k.c ck (s.s t a) d S) (v.v t S)⟩
def stC (S : St) (id off : Nat) (b : AV) (kk : St → O) (c : Option Cell) : O := Option.rec (motive := fun _ => O) .fail (fun c => Cell.rec (motive := fun _ => O) (fun cs => Option.rec (motive := fun _ => O) .fail (fun r => kk ⟨S.next, S.mem.set id (some (.box r))⟩) (overAtR off (cellsR b) cs)) (fun _ => .fail) (fun _ => .fail) c) c
def st1 (sz : Nat) (S : St) (b : AV) (kk : St → O) (a : AV) : O := PV.rec (motive := fun _ => O) (fun id off => Bool.rec (motive := fun _ => O) .fail (stC S id off b kk (S.mem.get id)) (okPart b sz)) (fun _ => .fail) .fail (fun _ _ _ _ => .fail) (fun _ => .fail) (fun _ => .fail) .fail (fun _ _ _ _ => .fail) a.pv
def storeB (sz : Nat) (gx gy : GB) (s : SB) (k : Bx) : Bx := ⟨fun ck t d S => Option.rec (motive := fun _ => O) .fail (fun a => Option.rec (motive := fun _ => O) .fail (fun b => st1 sz S b (fun S' => k.c ck (s.s t (.tup [])) d S') a) (gy.g t)) (gx.g t)⟩
def argsR (l : List GB) (t : T AV) : Option (List AV) := List.rec (motive := fun _ => Option (List AV)) (some []) (fun g _ ih => Option.rec (motive := fun _ => Option (List AV)) none (fun a => consO a ih) (g.g t)) l
def callFB (f : FuncId) (args : List GB) (s : SB) (k : Bx) : Bx := ⟨fun ck t d S => Option.rec (motive := fun _ => O) .fail (fun l => retX s k ck t d (ck f l S)) (argsR args t)⟩
def callC1 (s : SB) (k : Bx) (ck : CallK) (t : T AV) (d : List Dfr) (S : St) (args : List AV) (a : AV) : O := match a with
  | .fn (.func f) first caps => retX s k ck t d (ck f (first ++ args ++ caps) S)
  | _ => .fail
def callCB (g : GB) (args : List GB) (s : SB) (k : Bx) : Bx := ⟨fun ck t d S => Option.rec (motive := fun _ => O) .fail (fun a => Option.rec (motive := fun _ => O) .fail (fun l => callC1 s k ck t d S l a) (argsR args t)) (g.g t)⟩
def allocB (z : List AV) (s : SB) (k : Bx) : Bx := ⟨fun ck t d S => k.c ck (s.s t (.ptr S.next 0)) d ⟨Nat.succ S.next, S.mem.set S.next (some (.box z))⟩⟩
def boxB (g : GB) (s : SB) (k : Bx) : Bx := ⟨fun ck t d S => Option.rec (motive := fun _ => O) .fail (fun a => Bool.rec (motive := fun _ => O) .fail (k.c ck (s.s t (.ptr S.next 0)) d ⟨Nat.succ S.next, S.mem.set S.next (some (.box (cellsR a)))⟩) (noTupR a)) (g.g t)⟩
def zeroOf (P : Program) (e : TypeId) : Option (List AV) := match P.info? e with
  | some i => match i.zero with
    | some z => match ofConst 8 z with
      | some a => if a.noTup then some a.cells else none
      | none => none
    | none => none
  | none => none
def coreB (E : Env) (o : Oper) (s : SB) (k : Bx) : Bx := if isLook o then lookB (valV E o) s k else match o.op with
  | .store t x y => match sizeT E.P t with
    | some n => storeB n (opG E.G x) (opG E.G y) s k
    | none => failB
  | .alloc e => match zeroOf E.P e with
    | some z => allocB z s k
    | none => failB
  | .box _ x => boxB (opG E.G x) s k
  | .call c => match c.callee with
    | .value (.func f) => callFB f (c.args.toList.map (opG E.G)) s k
    | .value x => callCB (opG E.G x) (c.args.toList.map (opG E.G)) s k
    | _ => slowC E o s k
  | _ => slowC E o s k
theorem argsR_eq (G : Gl) (t : T AV) : ∀ xs : List Operand, argsR (xs.map (opG G)) t = mapO (evalO G t) xs
  | [] => rfl
  | x :: r => by
    have ih := argsR_eq G t r
    show Option.rec (motive := fun _ => Option (List AV)) none (fun a => consO a (argsR (r.map (opG G)) t)) ((opG G x).g t) = _
    rw [ih, opG_ok]
    simp only [mapO]
    cases evalO G t x <;> cases mapO (evalO G t) r <;> rfl
section
variable {E : Env} {n : Nat} {o : Oper} {s : SB} {k : Bx} {ck : CallK} {t : T AV} {d : List Dfr} {S : St}
theorem retX_ok (hs : dstS n o.dst = some s) (r : R) : retX s k ck t d r = contX k.c ck (match r with
      | .ret a S'' => putA n ⟨t, d⟩ o.dst a S''
      | .pan a S'' => .out (.pan a) ⟨t, d⟩ S''
      | .fail => .fail) := by
  cases r with
  | ret a S' => simp only [dstS_ok hs]; rfl
  | pan a S' => rfl
  | fail => rfl
theorem slowC_ok (hs : dstS n o.dst = some s) : (slowC E o s k).c ck t d S = contX k.c ck (stepT E ck n o ⟨t, d⟩ S) := by
  show yieldX s k ck t d (exec1R E t S o) = _
  rw [exec1R_eq]
  unfold stepT
  cases exec1 E t S o with
  | val a S' => simp only [dstS_ok hs]; rfl
  | skip S' => simp only [dstS_ok hs]; rfl
  | enter f args S' => exact retX_ok hs _
  | dfr fn caps args S' => simp only [dstS_ok hs]; rfl
  | pan a S' => rfl
  | fail => rfl
theorem st1_ok {P : Program} {sz : Nat} {ty : TypeId} {a b : AV} {kk : St → O} (hz : sizeT P ty = some sz) : st1 sz S b kk a = .fail ∨ ∃ S', oStore P S ty a b = some S' ∧ st1 sz S b kk a = kk S' := by
  unfold st1
  cases hp : a.pv with
  | p id off =>
    rw [pv_p hp]
    show Bool.rec (motive := fun _ => O) .fail (stC S id off b kk (S.mem.get id)) (okPart b sz) = .fail ∨ ∃ S', _ ∧ Bool.rec (motive := fun _ => O) .fail (stC S id off b kk (S.mem.get id)) (okPart b sz) = kk S'
    cases hk : okPart b sz with
    | false => exact .inl rfl
    | true =>
      obtain ⟨k1, k2⟩ := okPart_true hk
      show stC S id off b kk (S.mem.get id) = .fail ∨ ∃ S', _ ∧ stC S id off b kk (S.mem.get id) = kk S'
      cases hm : S.mem.get id with
      | none => exact .inl rfl
      | some c =>
        cases c with
        | box cs =>
          show Option.rec (motive := fun _ => O) .fail (fun r => kk ⟨S.next, S.mem.set id (some (.box r))⟩) (overAtR off (cellsR b) cs) = .fail ∨ ∃ S', _ ∧ Option.rec (motive := fun _ => O) .fail (fun r => kk ⟨S.next, S.mem.set id (some (.box r))⟩) (overAtR off (cellsR b) cs) = kk S'
          cases ho : overAtR off (cellsR b) cs with
          | none => exact .inl rfl
          | some r =>
            obtain ⟨k3, k4⟩ := overAtR_some _ _ _ _ ho
            rw [cellsR_eq] at k3 k4
            refine .inr ⟨⟨S.next, S.mem.set id (some (.box r))⟩, ?_, rfl⟩
            simp only [oStore, hm, hz, k1, k2, beq_self_eq_true, Bool.true_and]
            rw [if_pos (by rw [k2] at k3; simpa using k3), k4, k2]
        | tip m => exact .inl rfl
        | mp es => exact .inl rfl
  | e => exact .inl rfl
  | n => exact .inl rfl
  | l => exact .inl rfl
  | a => exact .inl rfl
  | t => exact .inl rfl
  | no => exact .inl rfl
  | w => exact .inl rfl
theorem coreB_ok (hck : CkF E ck) (hs : dstS n o.dst = some s) : Rf ((coreB E o s k).c ck t d S) (contX k.c ck (stepT E ck n o ⟨t, d⟩ S)) := by
  have slow : Rf ((slowC E o s k).c ck t d S) (contX k.c ck (stepT E ck n o ⟨t, d⟩ S)) := .inr (slowC_ok hs)
  unfold coreB
  split
  · rename_i hl
    show Rf (Option.rec (motive := fun _ => O) .fail (fun a => k.c ck (s.s t a) d S) ((valV E o).v t S)) _
    cases hv : (valV E o).v t S with
    | none => exact .inl rfl
    | some a =>
      have := valV_ok hl t S a hv
      refine .inr ?_
      simp only [stepT, this, dstS_ok hs]; rfl
  · split
    · rename_i ty x y ho
      split
      · rename_i sz hz
        show Rf (Option.rec (motive := fun _ => O) .fail (fun a => Option.rec (motive := fun _ => O) .fail (fun b => st1 sz S b (fun S' => k.c ck (s.s t (.tup [])) d S') a) ((opG E.G y).g t)) ((opG E.G x).g t)) _
        rw [opG_ok, opG_ok]
        cases hx : evalO E.G t x with
        | none => exact .inl rfl
        | some a =>
          cases hy : evalO E.G t y with
          | none => exact .inl rfl
          | some b =>
            show Rf (st1 sz S b (fun S' => k.c ck (s.s t (.tup [])) d S') a) _
            rcases st1_ok (S := S) (a := a) (b := b) (kk := fun S' => k.c ck (s.s t (.tup [])) d S') hz with h | ⟨S', h1, h2⟩
            · exact .inl h
            · refine .inr (h2.trans ?_)
              simp only [stepT, exec1, ho, hx, hy, h1, dstS_ok hs]; rfl
      · exact .inl rfl
    · rename_i e ho
      split
      · rename_i z hz
        refine .inr ?_
        unfold zeroOf at hz
        split at hz
        · rename_i i hi
          split at hz
          · rename_i z0 hz0
            split at hz
            · rename_i a ha
              split at hz
              · rename_i hn
                injection hz with hz; subst hz
                simp only [stepT, exec1, ho, oAlloc, hi, hz0, ha, if_pos hn, ofOptS, dstS_ok hs]; rfl
              · cases hz
            · cases hz
          · cases hz
        · cases hz
      · exact .inl rfl
    · rename_i e x ho
      show Rf (Option.rec (motive := fun _ => O) .fail (fun a => Bool.rec (motive := fun _ => O) .fail (k.c ck (s.s t (.ptr S.next 0)) d ⟨Nat.succ S.next, S.mem.set S.next (some (.box (cellsR a)))⟩) (noTupR a)) ((opG E.G x).g t)) _
      rw [opG_ok]
      cases hx : evalO E.G t x with
      | none => exact .inl rfl
      | some a =>
        show Rf (Bool.rec (motive := fun _ => O) .fail (k.c ck (s.s t (.ptr S.next 0)) d ⟨Nat.succ S.next, S.mem.set S.next (some (.box (cellsR a)))⟩) (noTupR a)) _
        rw [noTupR_eq, cellsR_eq]
        cases hn : a.noTup with
        | false => exact .inl rfl
        | true =>
          refine .inr ?_
          simp only [stepT, exec1, ho, hx, if_pos hn, dstS_ok hs]; rfl
    · rename_i c ho
      have fnc : ∀ (g : AV) (l : List AV), (∃ x, c.callee = .value x ∧ evalO E.G t x = some g) → mapO (evalO E.G t) c.args.toList = some l → Rf (callC1 s k ck t d S l g) (contX k.c ck (stepT E ck n o ⟨t, d⟩ S)) := by
        rintro g l ⟨x, hc, hx⟩ hl
        unfold callC1
        split
        · rename_i f first caps
          cases hF : E.F f with
          | none =>
            have : ck f (first ++ l ++ caps) S = .fail := by
              cases hr : ck f (first ++ l ++ caps) S with
              | fail => rfl
              | ret a S' => have := hck f (first ++ l ++ caps) S (by rw [hr]; exact fun e => by cases e); rw [hF] at this; cases this
              | pan a S' => have := hck f (first ++ l ++ caps) S (by rw [hr]; exact fun e => by cases e); rw [hF] at this; cases this
            rw [this]; exact .inl rfl
          | some fn =>
            refine .inr ?_
            rw [retX_ok hs]
            simp only [stepT, exec1, ho, callA, hc, hx, hl, hF]
        · exact .inl rfl
      split
      · rename_i f hc
        show Rf (Option.rec (motive := fun _ => O) .fail (fun l => retX s k ck t d (ck f l S)) (argsR (c.args.toList.map (opG E.G)) t)) _
        rw [argsR_eq]
        cases hl : mapO (evalO E.G t) c.args.toList with
        | none => exact .inl rfl
        | some l =>
          have := fnc (.fn (.func f) [] []) l ⟨_, hc, rfl⟩ hl
          simpa [callC1] using this
      · rename_i x hc hne
        show Rf (Option.rec (motive := fun _ => O) .fail (fun a => Option.rec (motive := fun _ => O) .fail (fun l => callC1 s k ck t d S l a) (argsR (c.args.toList.map (opG E.G)) t)) ((opG E.G x).g t)) _
        rw [argsR_eq, opG_ok]
        cases hx : evalO E.G t x with
        | none => exact .inl rfl
        | some g =>
          cases hl : mapO (evalO E.G t) c.args.toList with
          | none => exact .inl rfl
          | some l => exact fnc g l ⟨x, hne, hx⟩ hl
      · exact slow
    · exact slow
/-- Guards. -/
def skipB (s : SB) (k : Bx) : Bx := ⟨fun ck t d S => k.c ck (s.s t (.tup [])) d S⟩
def isTup (a : AV) : Bool := PV.rec (motive := fun _ => Bool) (fun _ _ => false) (fun _ => false) false (fun _ _ _ _ => false) (fun _ => false) (fun _ => true) false (fun _ _ _ _ => false) a.pv
def sameB (x y : Bool) : Bool := Bool.rec (motive := fun _ => Bool) (notR y) y x
def guard1 (want : Bool) (x y : Bx) (a : AV) : Bx := SV.rec (motive := fun _ => Bx) (fun b => Bool.rec (motive := fun _ => Bx) y x (sameB b want)) (fun _ _ => failB) (fun _ => failB) (Bool.rec (motive := fun _ => Bx) failB y (isTup a)) a.sv
def guardB (g : GB) (want : Bool) (x y : Bx) : Bx := ⟨fun ck t d S => Option.rec (motive := fun _ => O) .fail (fun a => (guard1 want x y a).c ck t d S) (g.g t)⟩
def opB (E : Env) (n : Nat) (ops : Array Oper) (o : Oper) (k : Bx) : Bx := match dstS n o.dst with
  | none => failB
  | some s => match o.guard with
    | none => coreB E o s k
    | some (j, want) => match (ops[j]?).bind (·.dst) with
      | none => skipB s k
      | some d => guardB (getG d) want (coreB E o s k) (skipB s k)
theorem opB_ok {ops : Array Oper} (hck : CkF E ck) : Rf ((opB E n ops o k).c ck t d S) (contX k.c ck (stepO E ck n ops o ⟨t, d⟩ S)) := by
  unfold opB
  split
  · exact .inl rfl
  · rename_i s hs
    have skip : (skipB s k).c ck t d S = contX k.c ck (putA n ⟨t, d⟩ o.dst (.tup []) S) := by rw [dstS_ok hs]; rfl
    have core := coreB_ok (E := E) (n := n) (o := o) (k := k) (t := t) (d := d) (S := S) hck hs
    split
    · rename_i hg
      have : stepO E ck n ops o ⟨t, d⟩ S = stepT E ck n o ⟨t, d⟩ S := by unfold stepO wantedA; rw [hg]; rfl
      rw [this]; exact core
    · rename_i j want hg
      split
      · rename_i hj
        have : stepO E ck n ops o ⟨t, d⟩ S = putA n ⟨t, d⟩ o.dst (.tup []) S := by unfold stepO wantedA; rw [hg]; simp only [hj]
        rw [this]; exact .inr skip
      · rename_i d0 hj
        show Rf (Option.rec (motive := fun _ => O) .fail (fun a => (guard1 want (coreB E o s k) (skipB s k) a).c ck t d S) ((getG d0).g t)) _
        rw [getG_ok]
        cases hx : t.get d0 with
        | none => exact .inl rfl
        | some a =>
          show Rf ((guard1 want (coreB E o s k) (skipB s k) a).c ck t d S) _
          unfold guard1
          cases hv : a.sv with
          | b b =>
            have ha := sv_b hv
            subst ha
            have hw : wantedA ops o t = some (b == want) := by unfold wantedA; rw [hg]; simp only [hj, hx]
            show Rf ((Bool.rec (motive := fun _ => Bx) (skipB s k) (coreB E o s k) (sameB b want)).c ck t d S) _
            have hb : sameB b want = (b == want) := by cases b <;> cases want <;> rfl
            rw [hb]
            cases hbw : (b == want) with
            | false =>
              have : stepO E ck n ops o ⟨t, d⟩ S = putA n ⟨t, d⟩ o.dst (.tup []) S := by unfold stepO; simp only [hw, hbw]
              rw [this]; exact .inr skip
            | true =>
              have : stepO E ck n ops o ⟨t, d⟩ S = stepT E ck n o ⟨t, d⟩ S := by unfold stepO; simp only [hw, hbw]; rfl
              rw [this]; exact core
          | i => exact .inl rfl
          | s => exact .inl rfl
          | no =>
            show Rf ((Bool.rec (motive := fun _ => Bx) failB (skipB s k) (isTup a)).c ck t d S) _
            cases hp : a.pv with
            | t vs =>
              have : isTup a = true := by unfold isTup; rw [hp]
              rw [this]
              have ha := pv_t hp
              subst ha
              have hw : wantedA ops o t = some false := by unfold wantedA; rw [hg]; simp only [hj, hx]
              have : stepO E ck n ops o ⟨t, d⟩ S = putA n ⟨t, d⟩ o.dst (.tup []) S := by unfold stepO; simp only [hw]
              rw [this]; exact .inr skip
            | p =>
              have : isTup a = false := by unfold isTup; rw [hp]
              rw [this]; exact .inl rfl
            | e =>
              have : isTup a = false := by unfold isTup; rw [hp]
              rw [this]; exact .inl rfl
            | n =>
              have : isTup a = false := by unfold isTup; rw [hp]
              rw [this]; exact .inl rfl
            | l =>
              have : isTup a = false := by unfold isTup; rw [hp]
              rw [this]; exact .inl rfl
            | a =>
              have : isTup a = false := by unfold isTup; rw [hp]
              rw [this]; exact .inl rfl
            | no =>
              have : isTup a = false := by unfold isTup; rw [hp]
              rw [this]; exact .inl rfl
            | w =>
              have : isTup a = false := by unfold isTup; rw [hp]
              rw [this]; exact .inl rfl
def opsB (E : Env) (n : Nat) (ops : Array Oper) (l : List Oper) : Bx → Bx := List.rec (motive := fun _ => Bx → Bx) (fun k => k) (fun o _ ih k => opB E n ops o (ih k)) l
end
theorem opsB_ok {E : Env} {n : Nat} {ops : Array Oper} {ck : CallK} (hck : CkF E ck) (k : Bx) : ∀ (l : List Oper) (t : T AV) (d : List Dfr) (S : St), Rf ((opsB E n ops l k).c ck t d S) (contX k.c ck (runL E ck n ops l ⟨t, d⟩ S))
  | [], t, d, S => .inr rfl
  | o :: r, t, d, S => by
    have h := opB_ok (E := E) (n := n) (o := o) (ops := ops) (k := opsB E n ops r k) (t := t) (d := d) (S := S) hck
    show Rf ((opB E n ops o (opsB E n ops r k)).c ck t d S) _
    rcases h with h | h
    · exact .inl h
    · rw [h]
      unfold runL
      cases stepO E ck n ops o ⟨t, d⟩ S with
      | fail => exact .inl rfl
      | out e f' S' =>
        cases e with
        | normal => exact opsB_ok hck k r f'.tmps f'.dfr S'
        | exit i => exact .inr rfl
        | ret => exact .inr rfl
        | pan a => exact .inr rfl
/-- What was seen is still so. -/
def re1 (k : Bx) (ck : CallK) (t : T AV) (d : List Dfr) (S : St) (b a : Option AV) : O := Option.rec (motive := fun _ => O) .fail (fun b => Option.rec (motive := fun _ => O) .fail (fun a => Bool.rec (motive := fun _ => O) .fail (k.c ck t d S) (beqA b a)) a) b
def reB (E : Env) (ops : Array Oper) (o : Oper) (k : Bx) : Bx := match o.guard, o.dst, isLook o with
  | none, some d0, true => ⟨fun ck t d S => re1 k ck t d S ((getG d0).g t) ((valV E o).v t S)⟩
  | _, _, _ => ⟨fun ck t d S => Bool.rec (motive := fun _ => O) .fail (k.c ck t d S) (againO E ops o t S)⟩
theorem reB_ok {E : Env} {ops : Array Oper} {o : Oper} {k : Bx} {ck : CallK} {t : T AV} {d : List Dfr} {S : St} : Rf ((reB E ops o k).c ck t d S) (if againO E ops o t S then k.c ck t d S else .fail) := by
  have slow : Rf (Bool.rec (motive := fun _ => O) .fail (k.c ck t d S) (againO E ops o t S)) (if againO E ops o t S then k.c ck t d S else .fail) := by
    cases againO E ops o t S <;> exact .inr rfl
  unfold reB
  split
  · rename_i d0 hg hd hl
    show Rf (re1 k ck t d S ((getG d0).g t) ((valV E o).v t S)) _
    rw [getG_ok]
    cases hb : t.get d0 with
    | none => exact .inl rfl
    | some b =>
      cases hv : (valV E o).v t S with
      | none => exact .inl rfl
      | some a =>
        have h1 := valV_ok hl t S a hv
        have h2 : lookV E ops o t S = some a := by unfold lookV wantedA; rw [hg]; simp only [h1]
        have h3 : againO E ops o t S = beqA b a := by unfold againO; rw [h2, hd]; simp only [hb]
        rw [h3]
        show Rf (Bool.rec (motive := fun _ => O) .fail (k.c ck t d S) (beqA b a)) _
        cases beqA b a <;> exact .inr rfl
  · exact slow
def rsB (E : Env) (n : Nat) (ops : Array Oper) (l : List RS) : Bx → Bx := List.rec (motive := fun _ => Bx → Bx) (fun k => k) (fun s _ ih k => RS.rec (motive := fun _ => Bx) (fun o => opB E n ops o (ih k)) (fun o => reB E ops o (ih k)) s) l
theorem rsB_ok {E : Env} {n : Nat} {ops : Array Oper} {ck : CallK} (hck : CkF E ck) (k : Bx) : ∀ (l : List RS) (t : T AV) (d : List Dfr) (S : St), Rf ((rsB E n ops l k).c ck t d S) (contX k.c ck (runRS E ck n ops l ⟨t, d⟩ S))
  | [], t, d, S => .inr rfl
  | .op o :: r, t, d, S => by
    have h := opB_ok (E := E) (n := n) (o := o) (ops := ops) (k := rsB E n ops r k) (t := t) (d := d) (S := S) hck
    show Rf ((opB E n ops o (rsB E n ops r k)).c ck t d S) _
    rcases h with h | h
    · exact .inl h
    · rw [h]
      have e : runRS E ck n ops (.op o :: r) ⟨t, d⟩ S = match stepO E ck n ops o ⟨t, d⟩ S with
        | .out .normal f' S' => runRS E ck n ops r f' S'
        | r => r := rfl
      rw [e]
      cases stepO E ck n ops o ⟨t, d⟩ S with
      | fail => exact .inl rfl
      | out e f' S' =>
        cases e with
        | normal => exact rsB_ok hck k r f'.tmps f'.dfr S'
        | exit i => exact .inr rfl
        | ret => exact .inr rfl
        | pan a => exact .inr rfl
  | .re o :: r, t, d, S => by
    have h := reB_ok (E := E) (o := o) (ops := ops) (k := rsB E n ops r k) (ck := ck) (t := t) (d := d) (S := S)
    show Rf ((reB E ops o (rsB E n ops r k)).c ck t d S) _
    have e : runRS E ck n ops (.re o :: r) ⟨t, d⟩ S = if againO E ops o t S then runRS E ck n ops r ⟨t, d⟩ S else .fail := rfl
    rw [e]
    rcases h with h | h
    · exact .inl h
    · rw [h]
      cases againO E ops o t S with
      | false => exact .inl rfl
      | true => exact rsB_ok hck k r t d S
def drawS (E : Env) (n : Nat) (ops : Array Oper) (k : Bx) : Bx := ⟨fun ck t d S => contX k.c ck (drawnR E ck n ops ⟨t, d⟩ S)⟩
def onlyLooks (l : List RS) : Bool := l.all fun s => match s with
  | .op o => isLook o
  | .re _ => true
def fixB (E : Env) (n : Nat) (ops : Array Oper) (l : List RS) (k : Bx) : Bx := ⟨fun ck t d S => contX k.c ck (fixX ⟨eraseT ops.toList t, d⟩ ((rsB E n ops l normB).c ck t d S))⟩
def drawO (E : Env) (n : Nat) (ops : Array Oper) (k : Bx) : Bx :=
  let ms := bm ops.toList []
  let order := eager ops ms ops.size (List.range ops.size) 0
  if static ops ms order then (match stepsD ops ms order [] with
    | some rs => if onlyLooks rs then rsB E n ops rs k else fixB E n ops rs k
    | none => drawS E n ops k) else drawS E n ops k
def drawF (E : Env) (n : Nat) (ops : Array Oper) (x : FlP) (k : Bx) : Bx := match allSteps ops x with
  | some rs => if x.d < n then ⟨fun ck t d S => contX k.c ck (fixX ⟨eraseT ops.toList t, d⟩ ((rsB E n ops rs normB).c ck (T.set t x.d none) d S))⟩ else failB
  | none => failB
def drawM (E : Env) (n : Nat) (ops : Array Oper) (x : MkX) (k : Bx) : Bx := match mkSteps ops x with
  | some rs => if mkFit E.P n ops x = true then ⟨fun ck t d S => contX k.c ck (fixX ⟨eraseT ops.toList t, d⟩ ((rsB E n ops rs normB).c ck (clearT E.P ops x.mks t) d S))⟩ else failB
  | none => failB
def thenM2 (P : Program) (ops : Array Oper) (M : List Nat) (k : CallK → T AV → List Dfr → St → O) (ck : CallK) (r : O) : O := match r with
  | .out e f S => match e with
    | .normal => Bool.rec .fail (k ck f.tmps f.dfr S) (M.all (goodM P ops f.tmps))
    | _ => .fail
  | .fail => .fail
def drawM2 (E : Env) (n : Nat) (ops : Array Oper) (x : MkX) (k : Bx) : Bx := match mk2Steps ops x with
  | some (p, M, q) => if mkFit2 E.P n ops x = true then ⟨fun ck t d S => thenM2 E.P ops M (fun ck t2 d2 S2 => contX k.c ck (fixX ⟨eraseT ops.toList t, d⟩ ((rsB E n ops q normB).c ck t2 d2 S2))) ck ((rsB E n ops p normB).c ck (clearT2 E.P ops x.mks t) d S)⟩ else failB
  | none => failB
def drawB (E : Env) (n : Nat) (ops : Array Oper) (k : Bx) : Bx := match flFind E.P ops with
  | some x => drawF E n ops x k
  | none => match mkFind E.P ops with
    | some x => drawM E n ops x k
    | none => match mk2Find E.P ops with
      | some x => drawM2 E n ops x k
      | none => drawO E n ops k
theorem contX_norm (ck : CallK) (r : O) : contX normB.c ck r = r := by
  cases r with
  | fail => rfl
  | out e f S => cases e <;> rfl
theorem runRS_looks {E : Env} {ck : CallK} {n : Nat} {ops : Array Oper} {fb : Fr} : ∀ (l : List RS) (f : Fr) (S : St), onlyLooks l = true → fixX fb (runRS E ck n ops l f S) = runRS E ck n ops l f S
  | [], f, S, h => rfl
  | .op o :: r, f, S, h => by
    unfold onlyLooks at h
    rw [List.all_cons, Bool.and_eq_true] at h
    have e : runRS E ck n ops (.op o :: r) f S = match stepO E ck n ops o f S with
        | .out .normal f' S' => runRS E ck n ops r f' S'
        | r => r := rfl
    rw [e, stepO_eq, stepR_look h.1]
    cases lookV E ops o f.tmps S with
    | none => rfl
    | some a =>
      simp only
      rw [putA_eq]
      cases okD n o.dst with
      | false => rfl
      | true => exact runRS_looks r _ S h.2
  | .re o :: r, f, S, h => by
    unfold onlyLooks at h
    rw [List.all_cons, Bool.and_eq_true] at h
    have e : runRS E ck n ops (.re o :: r) f S = if againO E ops o f.tmps S then runRS E ck n ops r f S else .fail := rfl
    rw [e]
    cases againO E ops o f.tmps S with
    | false => rfl
    | true => exact runRS_looks r f S h.2
theorem drawO_ok {E : Env} {n : Nat} {ops : Array Oper} {ck : CallK} (hck : CkF E ck) (k : Bx) (t : T AV) (d : List Dfr) (S : St) : Rf ((drawO E n ops k).c ck t d S) (contX k.c ck (drawnRun E ck n ops ⟨t, d⟩ S)) := by
  have slow : Rf ((drawS E n ops k).c ck t d S) (contX k.c ck (drawnRun E ck n ops ⟨t, d⟩ S)) := by
    refine .inr ?_
    show contX k.c ck (drawnR E ck n ops ⟨t, d⟩ S) = _
    rw [drawnR_eq]
  unfold drawO
  simp only
  split
  · rename_i hst
    split
    · rename_i rs hrs
      have e : runRS E ck n ops rs ⟨t, d⟩ S = .fail ∨ drawnRun E ck n ops ⟨t, d⟩ S = fixX ⟨eraseT ops.toList t, d⟩ (runRS E ck n ops rs ⟨t, d⟩ S) := by
        unfold drawnRun
        simp only
        rw [if_pos hst]
        exact drun_steps _ rs _ _ [] hrs (fun _ h => absurd h List.not_mem_nil)
      split
      · rename_i hlk
        have h := rsB_ok (E := E) (n := n) (ops := ops) hck k rs t d S
        rcases h with h | h
        · exact .inl h
        · rw [h]
          rcases e with e | e
          · rw [e]; exact .inl rfl
          · rw [e, runRS_looks rs _ _ hlk]; exact .inr rfl
      · have h := rsB_ok (E := E) (n := n) (ops := ops) hck normB rs t d S
        rw [contX_norm] at h
        show Rf (contX k.c ck (fixX ⟨eraseT ops.toList t, d⟩ ((rsB E n ops rs normB).c ck t d S))) _
        rcases h with h | h
        · rw [h]; exact .inl rfl
        · rw [h]
          rcases e with e | e
          · rw [e]; exact .inl rfl
          · rw [e]; exact .inr rfl
    · exact slow
  · exact slow
theorem drawB_ok {E : Env} {n : Nat} {ops : Array Oper} {ck : CallK} (hck : CkF E ck) (k : Bx) (t : T AV) (d : List Dfr) (S : St) : Rf ((drawB E n ops k).c ck t d S) (contX k.c ck (drawnNew E ck n ops ⟨t, d⟩ S)) := by
  cases hx : flFind E.P ops with
  | some x =>
    have e1 : drawB E n ops k = drawF E n ops x k := by unfold drawB; rw [hx]
    have e2 : drawnNew E ck n ops ⟨t, d⟩ S = drawnFl E x ck n ops ⟨t, d⟩ S := by unfold drawnNew; rw [hx]
    rw [e1, e2]
    unfold drawF drawnFl
    cases hrs : allSteps ops x with
    | none => exact .inl rfl
    | some rs =>
      simp only
      split
      · have h := rsB_ok (E := E) (n := n) (ops := ops) hck normB rs (T.set t x.d none) d S
        rw [contX_norm] at h
        show Rf (contX k.c ck (fixX ⟨eraseT ops.toList t, d⟩ ((rsB E n ops rs normB).c ck (T.set t x.d none) d S))) _
        rcases h with h | h
        · rw [h]; exact .inl rfl
        · rw [h]; exact .inr rfl
      · exact .inl rfl
  | none =>
    cases hy : mkFind E.P ops with
    | some x =>
      have e1 : drawB E n ops k = drawM E n ops x k := by unfold drawB; rw [hx]; simp only [hy]
      have e2 : drawnNew E ck n ops ⟨t, d⟩ S = drawnMk E x ck n ops ⟨t, d⟩ S := by unfold drawnNew; rw [hx]; simp only [hy]
      rw [e1, e2]
      unfold drawM drawnMk
      cases hrs : mkSteps ops x with
      | none => exact .inl rfl
      | some rs =>
        simp only
        cases hc : mkFit E.P n ops x with
        | true =>
          have h := rsB_ok (E := E) (n := n) (ops := ops) hck normB rs (clearT E.P ops x.mks t) d S
          rw [contX_norm] at h
          rw [if_pos rfl, if_pos rfl]
          show Rf (contX k.c ck (fixX ⟨eraseT ops.toList t, d⟩ ((rsB E n ops rs normB).c ck (clearT E.P ops x.mks t) d S))) _
          rcases h with h | h
          · rw [h]; exact .inl rfl
          · rw [h]; exact .inr rfl
        | false => rw [if_neg (by simp), if_neg (by simp)]; exact .inl rfl
    | none =>
    cases hz : mk2Find E.P ops with
    | some x =>
      have e1 : drawB E n ops k = drawM2 E n ops x k := by unfold drawB; rw [hx]; simp only [hy, hz]
      have e2 : drawnNew E ck n ops ⟨t, d⟩ S = drawnMk2 E x ck n ops ⟨t, d⟩ S := by unfold drawnNew; rw [hx]; simp only [hy, hz]
      rw [e1, e2]
      unfold drawM2 drawnMk2
      cases hrs : mk2Steps ops x with
      | none => exact .inl rfl
      | some rs =>
        obtain ⟨p, M, q⟩ := rs
        simp only
        cases hc : mkFit2 E.P n ops x with
        | false => rw [if_neg (by simp), if_neg (by simp)]; exact .inl rfl
        | true =>
          rw [if_pos rfl, if_pos rfl]
          have h := rsB_ok (E := E) (n := n) (ops := ops) hck normB p (clearT2 E.P ops x.mks t) d S
          rw [contX_norm] at h
          show Rf (thenM2 E.P ops M (fun ck t2 d2 S2 => contX k.c ck (fixX ⟨eraseT ops.toList t, d⟩ ((rsB E n ops q normB).c ck t2 d2 S2))) ck ((rsB E n ops p normB).c ck (clearT2 E.P ops x.mks t) d S)) _
          rcases h with h | h
          · rw [h]; exact .inl rfl
          · rw [h]
            cases runRS E ck n ops p ⟨clearT2 E.P ops x.mks t, d⟩ S with
            | fail => exact .inl rfl
            | out e f' S' =>
              cases e with
              | exit i => exact .inl rfl
              | ret => exact .inl rfl
              | pan a => exact .inl rfl
              | normal =>
                show Rf (Bool.rec .fail (contX k.c ck (fixX ⟨eraseT ops.toList t, d⟩ ((rsB E n ops q normB).c ck f'.tmps f'.dfr S'))) (M.all (goodM E.P ops f'.tmps))) (contX k.c ck (if M.all (goodM E.P ops f'.tmps) = true then _ else .fail))
                cases M.all (goodM E.P ops f'.tmps) with
                | false => exact .inl rfl
                | true =>
                  have h2 := rsB_ok (E := E) (n := n) (ops := ops) hck normB q f'.tmps f'.dfr S'
                  rw [contX_norm] at h2
                  show Rf (contX k.c ck (fixX ⟨eraseT ops.toList t, d⟩ ((rsB E n ops q normB).c ck f'.tmps f'.dfr S'))) _
                  rw [if_pos rfl]
                  rcases h2 with h2 | h2
                  · rw [h2]; exact .inl rfl
                  · rw [h2]; exact .inr rfl
    | none =>
      have e1 : drawB E n ops k = drawO E n ops k := by unfold drawB; rw [hx]; simp only [hy, hz]
      have e2 : drawnNew E ck n ops ⟨t, d⟩ S = drawnRun E ck n ops ⟨t, d⟩ S := by unfold drawnNew; rw [hx]; simp only [hy, hz]
      rw [e1, e2]
      exact drawO_ok hck k t d S
def drawnNewR (E : Env) : Drawn := fun ck n ops f S => match flFind E.P ops with
  | some x => drawnFl E x ck n ops f S
  | none => match mkFind E.P ops with
    | some x => drawnMk E x ck n ops f S
    | none => match mk2Find E.P ops with
      | some x => drawnMk2 E x ck n ops f S
      | none => drawnR E ck n ops f S
theorem drawnNewR_eq (E : Env) : drawnNewR E = drawnNew E := by
  unfold drawnNewR
  rw [drawnR_eq]
  rfl
end Go.Ax
