/-
  More operations made ready; operations that write, calls; code; functions: all runs are the slow ones.
-/
import Derived.Test.YtjgknelmjdallaaGreatDoorPlXa
noncomputable section
namespace Go.Ax
open Go.RowKit
set_option linter.unusedVariables false
set_option linter.unusedSimpArgs false

/-- Structs and rows built of parts. -/
structure PB where
  off : Nat
  size : Nat
  g : GB
def U2 (a : AV) : Bool := PV.rec (motive := fun _ => Bool) (fun _ _ => true) (fun _ => true) true (fun _ _ _ _ => true) (fun _ => true) (fun _ => false) true (fun _ _ _ _ => true) a.pv
theorem W6 (a : AV) : U2 a = a.noTup := by cases a <;> rfl
def Kw (a : AV) (size : Nat) : Bool := Bool.rec (motive := fun _ => Bool) false (Nat.beq (R9 (J8 a)) size) (U2 a)
theorem Oh {a : AV} {size : Nat} (h : Kw a size = true) : a.noTup = true ∧ a.cells.length = size := by
  unfold Kw at h
  rw [W6, Lb, Mu] at h
  cases hn : a.noTup with
  | false => rw [hn] at h; cases h
  | true => rw [hn] at h; exact ⟨rfl, Nat.eq_of_beq_eq_true h⟩
def gC (off size : Nat) (ih : List AV → Option (List AV)) (cs : List AV) (a : AV) : Option (List AV) := Bool.rec (motive := fun _ => Option (List AV)) none (Option.rec (motive := fun _ => Option (List AV)) none ih (Kd off (J8 a) cs)) (Kw a size)
def Si (l : List PB) (f : T AV) : List AV → Option (List AV) := List.rec (motive := fun _ => List AV → Option (List AV)) (fun cs => some cs) (fun p _ ih cs => Option.rec (motive := fun _ => Option (List AV)) none (gC p.off p.size ih cs) (p.g.g f)) l
def Tr (G : Gl) (pl : List (Nat × Nat)) : List (Nat × Operand) → Option (List PB)
  | [] => some []
  | (i, x) :: r => match pl[i]?, Tr G pl r with
    | some (off, size), some l => some (⟨off, size, opG G x⟩ :: l)
    | _, _ => none
theorem Xv {G : Gl} {pl : List (Nat × Nat)} {f : T AV} : ∀ {parts : List (Nat × Operand)} {l : List PB} {cs r : List AV}, Tr G pl parts = some l → Si l f cs = some r → ∃ ps, Cj G f parts = some ps ∧ Vh (fun i => pl[i]?) cs ps = some r
  | [], l, cs, r, h, hb => by
    injection h with h; subst h
    injection hb with hb; subst hb
    exact ⟨[], rfl, rfl⟩
  | (i, x) :: rest, l, cs, r, h, hb => by
    unfold Tr at h
    split at h
    · rename_i off size l' hp hl
      injection h with h; subst h
      have hb : Option.rec (motive := fun _ => Option (List AV)) none (gC off size (Si l' f) cs) ((opG G x).g f) = some r := hb
      cases hx : (opG G x).g f with
      | none => rw [hx] at hb; cases hb
      | some a =>
        rw [hx] at hb
        have hb : gC off size (Si l' f) cs a = some r := hb
        unfold gC at hb
        cases hk : Kw a size with
        | false => rw [hk] at hb; cases hb
        | true =>
          rw [hk] at hb
          have hb : Option.rec (motive := fun _ => Option (List AV)) none (Si l' f) (Kd off (J8 a) cs) = some r := hb
          cases ho : Kd off (J8 a) cs with
          | none => rw [ho] at hb; cases hb
          | some q =>
            rw [ho] at hb
            have hb : Si l' f q = some r := hb
            obtain ⟨ps, h1, h2⟩ := Xv hl hb
            obtain ⟨k1, k2⟩ := Oh hk
            obtain ⟨k3, k4⟩ := Ng _ _ _ _ ho
            rw [Mu] at k3 k4
            rw [F8] at hx
            refine ⟨(i, a) :: ps, by simp only [Cj, hx, h1], ?_⟩
            simp only [Vh, hp, k1, k2, beq_self_eq_true, Bool.true_and]
            rw [if_pos (by simpa using (by omega : off + size ≤ cs.length))]
            unfold splice
            rw [← k4]; exact h2
    · cases h
def buildB (l : List PB) (z : List AV) : VB := ⟨fun f _ => aggO (Si l f z)⟩
def eC (E : Env) (o : Oper) (t : TypeId) (parts : List (Nat × Operand)) : VB := match Jy E.P t, fieldsOf E.P t with
  | some z, some fs => match Pa E.P fs.toList with
    | some pl => match Tr E.G pl parts with
      | some l => if z.noTup then buildB l z.cells else G9 E o
      | none => G9 E o
    | none => G9 E o
  | _, _ => G9 E o
theorem jX {E : Env} {o : Oper} {t : TypeId} {ps : Array (Nat × Operand)} (ho : o.op = .build t ps) : VOk E o (eC E o t ps.toList) := by
  have slow : VOk E o (G9 E o) := H3 (by simp [F5, ho])
  unfold eC
  split
  · rename_i z fs hz hf
    split
    · rename_i pl hpl
      split
      · rename_i l hl
        split
        · rename_i hn
          intro f S a h
          obtain ⟨cs, h1, h2⟩ := Ka h
          injection h2 with h2; subst h2
          obtain ⟨qs, k1, k2⟩ := Xv hl h1
          simp only [C0, ho, k1, Gk, hz, hf, hpl, k2, if_pos hn, ofOpt]
        · exact slow
      · exact slow
    · exact slow
  · exact slow
def Wk (n : Nat) (l : List GB) (f : T AV) : Option (List AV) := List.rec (motive := fun _ => Option (List AV)) (some []) (fun g _ ih => Option.rec (motive := fun _ => Option (List AV)) none (fun a => Bool.rec (motive := fun _ => Option (List AV)) none (Lx a ih) (Kw a n)) (g.g f)) l
theorem Zo {G : Gl} {n : Nat} {f : T AV} : ∀ {parts : List (Nat × Operand)} {r : List AV}, Wk n (parts.map fun p => opG G p.2) f = some r → ∃ ps, Cj G f parts = some ps ∧ ps.map (·.1) = parts.map (·.1) ∧ ps.map (·.2) = r ∧ (ps.all fun p => p.2.noTup && p.2.cells.length == n) = true
  | [], r, h => by injection h with h; subst h; exact ⟨[], rfl, rfl, rfl, rfl⟩
  | (i, x) :: rest, r, h => by
    have h : Option.rec (motive := fun _ => Option (List AV)) none (fun a => Bool.rec (motive := fun _ => Option (List AV)) none (Lx a (Wk n (rest.map fun p => opG G p.2) f)) (Kw a n)) ((opG G x).g f) = some r := h
    cases hx : (opG G x).g f with
    | none => rw [hx] at h; cases h
    | some a =>
      rw [hx] at h
      have h : Bool.rec (motive := fun _ => Option (List AV)) none (Lx a (Wk n (rest.map fun p => opG G p.2) f)) (Kw a n) = some r := h
      cases hk : Kw a n with
      | false => rw [hk] at h; cases h
      | true =>
        rw [hk] at h
        have h : Lx a (Wk n (rest.map fun p => opG G p.2) f) = some r := h
        cases hq : Wk n (rest.map fun p => opG G p.2) f with
        | none => rw [hq] at h; cases h
        | some q =>
          rw [hq] at h
          have h : some (a :: q) = some r := h
          injection h with h; subst h
          obtain ⟨ps, h1, h2, h3, h4⟩ := Zo hq
          obtain ⟨k1, k2⟩ := Oh hk
          rw [F8] at hx
          exact ⟨(i, a) :: ps, by simp only [Cj, hx, h1], by simp [h2], by simp [h3], by simp only [List.all_cons, k1, k2, h4, beq_self_eq_true, Bool.and_self]⟩
def rowB (n : Nat) (l : List GB) : VB := ⟨fun f _ => eD (fun vs => some (.sl 1 0 n vs)) (Wk n l f)⟩
def rowV (E : Env) (o : Oper) (t : TypeId) (len : Nat) (parts : List (Nat × Operand)) : VB := match Gu E.P t with
  | some (none, e) => match Fj E.P e, Jy E.P e with
    | some (k + 1), some _ => if parts.map (·.1) = List.range len ∧ len * (k + 1) ≤ 16777216 then rowB (k + 1) (parts.map fun p => opG E.G p.2) else G9 E o
    | _, _ => G9 E o
  | _ => G9 E o
theorem rowV_ok {E : Env} {o : Oper} {t : TypeId} {len : Nat} {ps : Array (Nat × Operand)} (ho : o.op = .buildSlice t len ps) : VOk E o (rowV E o t len ps.toList) := by
  have slow : VOk E o (G9 E o) := H3 (by simp [F5, ho])
  unfold rowV
  split
  · rename_i e he
    split
    · rename_i k z hs hz
      split
      · rename_i hc
        intro f S a h
        obtain ⟨vs, h1, h2⟩ := Ka h
        injection h2 with h2; subst h2
        obtain ⟨qs, k1, k2, k3, k4⟩ := Zo h1
        simp only [C0, ho, k1, D3, he, hs, hz, k2, k3, hc.1, k4, beq_self_eq_true, Bool.and_self, Bool.true_and, decide_eq_true_eq, if_pos hc.2, ofOpt]
      · exact slow
    · exact slow
  · exact slow
/-- Lengths. -/
def lenP (a : AV) : Option AV := PV.rec (motive := fun _ => Option AV) (fun _ _ => none) (fun _ => none) (some (.v (.int .i64 (.ofNat 0)))) (fun _ _ _ es => some (.v (.int .i64 (.ofNat (R9 es))))) (fun _ => none) (fun _ => none) none (fun _ _ n _ => some (.v (.int .i64 (.ofNat n)))) a.pv
def lenT (a : AV) : Option AV := SV.rec (motive := fun _ => Option AV) (fun _ => none) (fun _ _ => none) (fun l => some (.v (.int .i64 (.ofNat (R9 l))))) none a.sv
def lenPV (g : GB) : VB := ⟨fun f _ => bnd lenP (g.g f)⟩
def lenTV (g : GB) : VB := ⟨fun f _ => bnd lenT (g.g f)⟩
def lenV (E : Env) (o : Oper) (t : TypeId) (g : GB) : VB := match E.P.underlying t with
  | some (.slice _) => lenPV g
  | some .string => lenTV g
  | _ => G9 E o
theorem lenV_ok {E : Env} {o : Oper} {c : Call} {t : TypeId} {x : Operand} (ho : o.op = .call c) (hc : c.callee = .builtin .len) (ha : c.args.toList = [x]) (ht : c.argTypes.toList = [t]) : VOk E o (lenV E o t (opG E.G x)) := by
  unfold lenV
  split
  · rename_i e hu
    intro f S a h
    obtain ⟨b, h1, h2⟩ := Fw h
    rw [F8] at h1
    simp only [C0, ho, C2, hc, ha, ht, h1]
    unfold lenP at h2
    cases hp : b.pv with
    | n => rw [hp] at h2; injection h2 with h2; subst h2; rw [pv_n hp]; simp only [Ji, hu]; rfl
    | l tok off sz es => rw [hp] at h2; injection h2 with h2; subst h2; rw [pv_l hp]; simp only [Ji, hu, Lb]; rfl
    | w id off n sz => rw [hp] at h2; injection h2 with h2; subst h2; rw [pv_w hp]; simp only [Ji, hu]; rfl
    | p => rw [hp] at h2; cases h2
    | e => rw [hp] at h2; cases h2
    | a => rw [hp] at h2; cases h2
    | t => rw [hp] at h2; cases h2
    | no => rw [hp] at h2; cases h2
  · rename_i hu
    intro f S a h
    obtain ⟨b, h1, h2⟩ := Fw h
    rw [F8] at h1
    simp only [C0, ho, C2, hc, ha, ht, h1]
    unfold lenT at h2
    cases hp : b.sv with
    | s l =>
      rw [hp] at h2; injection h2 with h2; subst h2
      obtain ⟨s, rfl, rfl⟩ := kO hp
      simp only [Ji, hu, Lb]; rfl
    | b => rw [hp] at h2; cases h2
    | i => rw [hp] at h2; cases h2
    | no => rw [hp] at h2; cases h2
  · exact H3 (by simp [F5, ho, hc])
/-- Slices. -/
structure NB where
  n : T AV → Nat → Option Nat
def noNB : NB := ⟨fun _ d => some d⟩
def atNB (g : GB) : NB := ⟨fun f _ => Option.rec (motive := fun _ => Option Nat) none (fun a => U4 a.sv) (g.g f)⟩
def aH (G : Gl) (x : Option Operand) : NB := match x with
  | none => noNB
  | some x => atNB (opG G x)
theorem Tt {G : Gl} {x : Option Operand} {f : T AV} {d n : Nat} (h : (aH G x).n f d = some n) : ∃ l, Dd (Cz G f) x.toList = some l ∧ Hh l.head? d = some n := by
  cases x with
  | none => injection h with h; subst h; exact ⟨[], rfl, rfl⟩
  | some x =>
    have h : Option.rec (motive := fun _ => Option Nat) none (fun a => U4 a.sv) ((opG G x).g f) = some n := h
    cases hx : (opG G x).g f with
    | none => rw [hx] at h; cases h
    | some a =>
      rw [hx] at h
      have h : U4 a.sv = some n := h
      obtain ⟨k, rfl⟩ := Nj h
      rw [F8] at hx
      exact ⟨[.v (.int k (n : Int))], by simp only [Option.toList, Dd, hx], by simp only [List.head?_cons, Hh, if_pos (show (0 : Int) ≤ (n : Int) by omega), Int.toNat_natCast]⟩
def slQ (tok off sz l h : Nat) (es r : List AV) : Option AV := Bool.rec (motive := fun _ => Option AV)
  (Bool.rec (motive := fun _ => Option AV) (eD (fun q => some (.sl 0 0 sz q)) (Qf (Nat.sub h l) r)) (some (.sl tok (Nat.add off (Nat.mul l sz)) sz r)) (Nat.beq h (R9 es)))
  (some (.sl 0 0 sz [])) (Nat.beq l h)
def kZ (tok off sz l h : Nat) (es : List AV) : Option AV := Bool.rec (motive := fun _ => Option AV) none (Bool.rec (motive := fun _ => Option AV) none (eD (slQ tok off sz l h es) (Vn l es)) (Nat.ble h (R9 es))) (Nat.ble l h)
def slStr (l h : Nat) (s : List UInt8) : Option AV := Bool.rec (motive := fun _ => Option AV) none (Option.rec (motive := fun _ => Option AV) none (fun r => Option.rec (motive := fun _ => Option AV) none (fun q => some (.v (.string ⟨⟨q⟩⟩))) (Qf (Nat.sub h l) r)) (Vn l s)) (Nat.ble l h)
def slP2 (n : Nat) (lo hi : NB) (f : T AV) (a : AV) : Option AV := PV.rec (motive := fun _ => Option AV) (fun _ _ => none) (fun _ => none) none
  (fun tok off sz es => Bool.rec (motive := fun _ => Option AV) none (Wg (fun l => Wg (fun h => kZ tok off sz l h es) (hi.n f (R9 es))) (lo.n f 0)) (Nat.beq n sz)) (fun _ => none) (fun _ => none) none (fun _ _ _ _ => none) a.pv
def slT2 (lo hi : NB) (f : T AV) (a : AV) : Option AV := SV.rec (motive := fun _ => Option AV) (fun _ => none) (fun _ _ => none) (fun s => Wg (fun l => Wg (fun h => slStr l h s) (hi.n f (R9 s))) (lo.n f 0)) none a.sv
def cS (sl : VB) (h : T AV → AV → Option AV) (g : GB) : VB := ⟨fun f S => bnd (fun a => Option.rec (motive := fun _ => Option AV) (sl.v f S) (fun r => some r) (h f a)) (g.g f)⟩
theorem W3 {E : Env} {o : Oper} {h : T AV → AV → Option AV} {x : Operand} (hl : F5 o = true) (hh : ∀ f S a r, Cz E.G f x = some a → h f a = some r → C0 E f S o = .val r S) : VOk E o (cS (G9 E o) h (opG E.G x)) := fun f S a e => by
  obtain ⟨b, h1, h2⟩ := Fw e
  cases hq : h f b with
  | none => rw [hq] at h2; exact H3 hl f S a h2
  | some r =>
    rw [hq] at h2
    injection h2 with h2; subst h2
    rw [F8] at h1
    exact hh f S b _ h1 hq
def cL (E : Env) (o : Oper) (t : TypeId) (x : Operand) (lo hi : Option Operand) : VB := match Gu E.P t with
  | some (none, e) => match Fj E.P e with
    | some n => cS (G9 E o) (slP2 n (aH E.G lo) (aH E.G hi)) (opG E.G x)
    | none => G9 E o
  | _ => match E.P.underlying t with
    | some .string => cS (G9 E o) (slT2 (aH E.G lo) (aH E.G hi)) (opG E.G x)
    | _ => G9 E o
theorem Rm (a b : Nat) : Nat.ble a b = decide (a ≤ b) := by
  cases h : Nat.ble a b with
  | true => rw [decide_eq_true (Nat.le_of_ble_eq_true h)]
  | false => symm; rw [decide_eq_false_iff_not]; intro hle; rw [Nat.ble_eq_true_of_le hle] at h; cases h
theorem hO {E : Env} {o : Oper} {t : TypeId} {x : Operand} {lo hi : Option Operand} (ho : o.op = .slice t x lo hi none) : VOk E o (cL E o t x lo hi) := by
  have hl : F5 o = true := by simp [F5, ho]
  unfold cL
  split
  · rename_i e he
    split
    · rename_i n hs
      refine W3 hl fun f S a r hx hr => ?_
      simp only [C0, ho, hx]
      unfold slP2 at hr
      cases hp : a.pv with
      | l tok off sz es =>
        rw [hp] at hr
        rw [pv_l hp]
        have hr : Bool.rec (motive := fun _ => Option AV) none (Wg (fun l => Wg (fun h => kZ tok off sz l h es) ((aH E.G hi).n f (R9 es))) ((aH E.G lo).n f 0)) (Nat.beq n sz) = some r := hr
        cases hb : Nat.beq n sz with
        | false => rw [hb] at hr; cases hr
        | true =>
          rw [hb] at hr
          have hn := Nat.eq_of_beq_eq_true hb
          subst hn
          obtain ⟨l, h1, h2⟩ := J9 hr
          obtain ⟨h, h3, h4⟩ := J9 h2
          rw [Lb] at h3
          obtain ⟨ll, q1, q2⟩ := Tt h1
          obtain ⟨lh, q3, q4⟩ := Tt h3
          simp only [q1, q3, P2, he, hs, q2, q4]
          unfold kZ at h4
          rw [Lb, Rm, Rm] at h4
          by_cases c1 : l ≤ h
          · by_cases c2 : h ≤ es.length
            · rw [decide_eq_true c1, decide_eq_true c2] at h4
              obtain ⟨rr, h5, h6⟩ := Ka h4
              obtain ⟨_, rfl⟩ := Lw _ _ _ h5
              rw [if_pos (by simp [c1, c2])]
              unfold slQ at h6
              rw [Lb] at h6
              by_cases c3 : l = h
              · subst c3
                rw [show Nat.beq l l = true from Nat.beq_refl l] at h6
                injection h6 with h6; subst h6
                rw [if_pos (by simp)]; rfl
              · have c4 : Nat.beq l h = false := by rw [Rn]; simpa using c3
                rw [c4] at h6
                rw [if_neg (by simpa using c3)]
                by_cases c5 : h = es.length
                · subst c5
                  rw [show Nat.beq es.length es.length = true from Nat.beq_refl _] at h6
                  injection h6 with h6; subst h6
                  rw [if_pos (by simp)]; rfl
                · have c6 : Nat.beq h es.length = false := by rw [Rn]; simpa using c5
                  rw [c6] at h6
                  rw [if_neg (by simpa using c5)]
                  obtain ⟨qq, h7, h8⟩ := Ka h6
                  obtain ⟨_, rfl⟩ := Mx _ _ _ h7
                  injection h8 with h8; subst h8
                  rfl
            · rw [decide_eq_true c1, decide_eq_false c2] at h4; cases h4
          · rw [decide_eq_false c1] at h4; cases h4
      | p => rw [hp] at hr; cases hr
      | e => rw [hp] at hr; cases hr
      | n => rw [hp] at hr; cases hr
      | a => rw [hp] at hr; cases hr
      | t => rw [hp] at hr; cases hr
      | no => rw [hp] at hr; cases hr
      | w => rw [hp] at hr; cases hr
    · exact H3 hl
  · split
    · rename_i hu
      refine W3 hl fun f S a r hx hr => ?_
      simp only [C0, ho, hx]
      unfold slT2 at hr
      cases hp : a.sv with
      | s l0 =>
        rw [hp] at hr
        obtain ⟨s, rfl, rfl⟩ := kO hp
        obtain ⟨l, h1, h2⟩ := J9 hr
        obtain ⟨h, h3, h4⟩ := J9 h2
        rw [Lb] at h3
        have h3 : (aH E.G hi).n f s.size = some h := h3
        obtain ⟨ll, q1, q2⟩ := Tt h1
        obtain ⟨lh, q3, q4⟩ := Tt h3
        simp only [q1, q3, Ho, hu, q2, q4]
        unfold slStr at h4
        rw [Rm] at h4
        by_cases c1 : l ≤ h
        · rw [decide_eq_true c1] at h4
          have h4 : Option.rec (motive := fun _ => Option AV) none (fun r => Option.rec (motive := fun _ => Option AV) none (fun q => some (.v (.string ⟨⟨q⟩⟩))) (Qf (Nat.sub h l) r)) (Vn l s.data.toList) = some r := h4
          cases hd : Vn l s.data.toList with
          | none => rw [hd] at h4; cases h4
          | some rr =>
            rw [hd] at h4
            have h4 : Option.rec (motive := fun _ => Option AV) none (fun q => some (.v (.string ⟨⟨q⟩⟩))) (Qf (Nat.sub h l) rr) = some r := h4
            cases ht : Qf (Nat.sub h l) rr with
            | none => rw [ht] at h4; cases h4
            | some q =>
              rw [ht] at h4
              injection h4 with h4; subst h4
              obtain ⟨k1, rfl⟩ := Lw _ _ _ hd
              obtain ⟨k2, rfl⟩ := Mx _ _ _ ht
              have k3 : h ≤ s.size := by
                have : s.size = s.data.toList.length := rfl
                simp only [Nat.sub_eq, List.length_drop] at k2
                omega
              rw [show Nat.ble l h = true by rw [Rm, decide_eq_true c1], show Nat.ble h s.size = true by rw [Rm, decide_eq_true k3]]
              rfl
        · rw [decide_eq_false c1] at h4; cases h4
      | b => rw [hp] at hr; cases hr
      | i => rw [hp] at hr; cases hr
      | no => rw [hp] at hr; cases hr
    · exact H3 hl
/-- Whatever look it is. -/
def callV (E : Env) (o : Oper) (c : Call) : VB := match c.callee, c.args.toList, c.argTypes.toList with
  | .builtin .len, [x], [t] => lenV E o t (opG E.G x)
  | _, _, _ => G9 E o
def Zp (E : Env) (o : Oper) : VB := match o.op with
  | .move x => fF (opG E.G x)
  | .assign x => fF (opG E.G x)
  | .pick c x y => pickV (opG E.G c) (opG E.G x) (opG E.G y)
  | .build t ps => eC E o t ps.toList
  | .buildSlice t len ps => rowV E o t len ps.toList
  | .load t x => Xb E.P t (opG E.G x)
  | .nilCheck x => nilV (opG E.G x)
  | .binOp op t x y _ => binV E o op (opG E.G x) (opG E.G y)
  | .makeInterface t x => cX E.P t (opG E.G x)
  | .slice t x lo hi none => cL E o t x lo hi
  | .fieldAddr t x i => dR E.P t i (opG E.G x)
  | .field t x i => dO E.P t i (opG E.G x)
  | .indexAddr t x i => dJ E.P t (opG E.G x) (opG E.G i)
  | .index t x i => dI E o t (opG E.G x) (opG E.G i)
  | .extract x i => extrV i (opG E.G x)
  | .call c => callV E o c
  | _ => G9 E o
theorem eJ {E : Env} {o : Oper} (hl : F5 o = true) : VOk E o (Zp E o) := by
  have hm : ∀ x, (∀ f S, C0 E f S o = ofOpt S (Cz E.G f x)) → VOk E o (fF (opG E.G x)) := fun x he f S a h => by
    have h : (opG E.G x).g f = some a := h
    rw [F8] at h
    rw [he, h]; rfl
  unfold Zp
  split
  · rename_i x ho; exact hm x fun f S => by simp only [C0, ho]
  · rename_i x ho; exact hm x fun f S => by simp only [C0, ho]
  · rename_i ho; exact lN ho
  · rename_i ho; exact jX ho
  · rename_i ho; exact rowV_ok ho
  · rename_i ho; exact mF ho
  · rename_i ho; exact nilV_ok ho
  · rename_i ho; exact binV_ok ho
  · rename_i ho; exact iT ho
  · rename_i ho; exact hO ho
  · rename_i ho; exact jO ho
  · rename_i ho; exact jN ho
  · rename_i ho; exact jB ho
  · rename_i ho; exact jA ho
  · rename_i ho; exact nN ho
  · rename_i c ho
    unfold callV
    split
    · rename_i hc ha ht; exact lenV_ok ho hc ha ht
    · exact H3 hl
  · exact H3 hl
end Go.Ax
noncomputable section
namespace Go.Ax
open Go.RowKit
set_option linter.unusedVariables false
set_option linter.unusedSimpArgs false

def Hy (k : Ck) (ck : Ep) (r : O) : O := O.rec (motive := fun _ => O) (fun e f S => Ex.rec (motive := fun _ => O) (k ck f.tmps f.dfr S) (fun i => .out (.exit i) f S) (.out .ret f S) (fun a => .out (.pan a) f S) e) .fail r
def J2 : Bx := ⟨fun _ _ _ _ => .fail⟩
def Ol : Bx := ⟨fun _ t d S => .out .normal ⟨t, d⟩ S⟩
def idS : SB := ⟨fun t _ => t⟩
def jR (n : Nat) (dst : Option Tmp) : Option SB := match dst with
  | none => some idS
  | some d => if d < n then some (setS d) else none
theorem Le {n : Nat} {dst : Option Tmp} {s : SB} (h : jR n dst = some s) (t : T AV) (d : List Dfr) (a : AV) (S : St) : Jw n ⟨t, d⟩ dst a S = .out .normal ⟨s.s t a, d⟩ S := by
  cases dst with
  | none => injection h with h; subst h; rfl
  | some x =>
    simp only [jR] at h
    split at h
    · rename_i hx
      injection h with h; subst h
      simp only [Jw, if_pos hx, eQ]
    · cases h
def Rf (x y : O) : Prop := x = .fail ∨ x = y
theorem Rf.refl (x : O) : Rf x x := .inr rfl
def CkF (E : Env) (ck : Ep) : Prop := ∀ k args S, ck k args S ≠ .fail → (E.F k).isSome = true
/-- An operation that is wanted. -/
def N4 (E : Env) (callK : Ep) (n : Nat) (o : Oper) (f : Fr) (S : St) : O := match C0 E f.tmps S o with
    | .val a S' => Jw n f o.dst a S'
    | .skip S' => Jw n f o.dst (.tup []) S'
    | .enter k args S' => match callK k args S' with
      | .ret a S'' => Jw n f o.dst a S''
      | .pan a S'' => .out (.pan a) f S''
      | .fail => .fail
    | .dfr fn caps args S' => Jw n { f with dfr := ⟨fn, caps, args⟩ :: f.dfr } o.dst (.tup []) S'
    | .pan a S' => .out (.pan a) f S'
    | .fail => .fail
def lG (s : SB) (k : Bx) (ck : Ep) (t : T AV) (d : List Dfr) (r : R) : O := R.rec (motive := fun _ => O) (fun a S => k.c ck (s.s t a) d S) (fun a S => .out (.pan a) ⟨t, d⟩ S) .fail r
def kD (s : SB) (k : Bx) (ck : Ep) (t : T AV) (d : List Dfr) (r : OR) : O := OR.rec (motive := fun _ => O) (fun a S => k.c ck (s.s t a) d S) (fun S => k.c ck (s.s t (.tup [])) d S) (fun f args S => lG s k ck t d (ck f args S)) (fun fn caps args S => k.c ck (s.s t (.tup [])) (⟨fn, caps, args⟩ :: d) S) (fun a S => .out (.pan a) ⟨t, d⟩ S) .fail r
def eO (E : Env) (o : Oper) (s : SB) (k : Bx) : Bx := ⟨fun ck t d S => kD s k ck t d (Ow E t S o)⟩
def lookB (v : VB) (s : SB) (k : Bx) : Bx := ⟨fun ck t d S => Option.rec (motive := fun _ => O) .fail (fun a => k.c ck (s.s t a) d S) (v.v t S)⟩
def stC (S : St) (id off : Nat) (b : AV) (kk : St → O) (c : Option Cell) : O := Option.rec (motive := fun _ => O) .fail (fun c => Cell.rec (motive := fun _ => O) (fun cs => Option.rec (motive := fun _ => O) .fail (fun r => kk ⟨S.next, S.mem.set id (some (.box r))⟩) (Kd off (J8 b) cs)) (fun _ => .fail) (fun _ => .fail) c) c
def st1 (sz : Nat) (S : St) (b : AV) (kk : St → O) (a : AV) : O := PV.rec (motive := fun _ => O) (fun id off => Bool.rec (motive := fun _ => O) .fail (stC S id off b kk (S.mem.get id)) (Kw b sz)) (fun _ => .fail) .fail (fun _ _ _ _ => .fail) (fun _ => .fail) (fun _ => .fail) .fail (fun _ _ _ _ => .fail) a.pv
def storeB (sz : Nat) (gx gy : GB) (s : SB) (k : Bx) : Bx := ⟨fun ck t d S => Option.rec (motive := fun _ => O) .fail (fun a => Option.rec (motive := fun _ => O) .fail (fun b => st1 sz S b (fun S' => k.c ck (s.s t (.tup [])) d S') a) (gy.g t)) (gx.g t)⟩
def Xx (l : List GB) (t : T AV) : Option (List AV) := List.rec (motive := fun _ => Option (List AV)) (some []) (fun g _ ih => Option.rec (motive := fun _ => Option (List AV)) none (fun a => Lx a ih) (g.g t)) l
def callFB (f : FuncId) (args : List GB) (s : SB) (k : Bx) : Bx := ⟨fun ck t d S => Option.rec (motive := fun _ => O) .fail (fun l => lG s k ck t d (ck f l S)) (Xx args t)⟩
def Vt (s : SB) (k : Bx) (ck : Ep) (t : T AV) (d : List Dfr) (S : St) (args : List AV) (a : AV) : O := match a with
  | .fn (.func f) first caps => lG s k ck t d (ck f (first ++ args ++ caps) S)
  | _ => .fail
def callCB (g : GB) (args : List GB) (s : SB) (k : Bx) : Bx := ⟨fun ck t d S => Option.rec (motive := fun _ => O) .fail (fun a => Option.rec (motive := fun _ => O) .fail (fun l => Vt s k ck t d S l a) (Xx args t)) (g.g t)⟩
def allocB (z : List AV) (s : SB) (k : Bx) : Bx := ⟨fun ck t d S => k.c ck (s.s t (.ptr S.next 0)) d ⟨Nat.succ S.next, S.mem.set S.next (some (.box z))⟩⟩
def boxB (g : GB) (s : SB) (k : Bx) : Bx := ⟨fun ck t d S => Option.rec (motive := fun _ => O) .fail (fun a => Bool.rec (motive := fun _ => O) .fail (k.c ck (s.s t (.ptr S.next 0)) d ⟨Nat.succ S.next, S.mem.set S.next (some (.box (J8 a)))⟩) (U2 a)) (g.g t)⟩
def kC (P : Program) (e : TypeId) : Option (List AV) := match P.info? e with
  | some i => match i.zero with
    | some z => match Bw 8 z with
      | some a => if a.noTup then some a.cells else none
      | none => none
    | none => none
  | none => none
def Vp (E : Env) (o : Oper) (s : SB) (k : Bx) : Bx := if F5 o then lookB (Zp E o) s k else match o.op with
  | .store t x y => match Fj E.P t with
    | some n => storeB n (opG E.G x) (opG E.G y) s k
    | none => J2
  | .alloc e => match kC E.P e with
    | some z => allocB z s k
    | none => J2
  | .box _ x => boxB (opG E.G x) s k
  | .call c => match c.callee with
    | .value (.func f) => callFB f (c.args.toList.map (opG E.G)) s k
    | .value x => callCB (opG E.G x) (c.args.toList.map (opG E.G)) s k
    | _ => eO E o s k
  | _ => eO E o s k
theorem Vv (G : Gl) (t : T AV) : ∀ xs : List Operand, Xx (xs.map (opG G)) t = Dd (Cz G t) xs
  | [] => rfl
  | x :: r => by
    have ih := Vv G t r
    show Option.rec (motive := fun _ => Option (List AV)) none (fun a => Lx a (Xx (r.map (opG G)) t)) ((opG G x).g t) = _
    rw [ih, F8]
    simp only [Dd]
    cases Cz G t x <;> cases Dd (Cz G t) r <;> rfl
section
variable {E : Env} {n : Nat} {o : Oper} {s : SB} {k : Bx} {ck : Ep} {t : T AV} {d : List Dfr} {S : St}
theorem eX (hs : jR n o.dst = some s) (r : R) : lG s k ck t d r = Hy k.c ck (match r with
      | .ret a S'' => Jw n ⟨t, d⟩ o.dst a S''
      | .pan a S'' => .out (.pan a) ⟨t, d⟩ S''
      | .fail => .fail) := by
  cases r with
  | ret a S' => simp only [Le hs]; rfl
  | pan a S' => rfl
  | fail => rfl
theorem kX (hs : jR n o.dst = some s) : (eO E o s k).c ck t d S = Hy k.c ck (N4 E ck n o ⟨t, d⟩ S) := by
  show kD s k ck t d (Ow E t S o) = _
  rw [Mt]
  unfold N4
  cases C0 E t S o with
  | val a S' => simp only [Le hs]; rfl
  | skip S' => simp only [Le hs]; rfl
  | enter f args S' => exact eX hs _
  | dfr fn caps args S' => simp only [Le hs]; rfl
  | pan a S' => rfl
  | fail => rfl
theorem st1_ok {P : Program} {sz : Nat} {ty : TypeId} {a b : AV} {kk : St → O} (hz : Fj P ty = some sz) : st1 sz S b kk a = .fail ∨ ∃ S', Du P S ty a b = some S' ∧ st1 sz S b kk a = kk S' := by
  unfold st1
  cases hp : a.pv with
  | p id off =>
    rw [pv_p hp]
    show Bool.rec (motive := fun _ => O) .fail (stC S id off b kk (S.mem.get id)) (Kw b sz) = .fail ∨ ∃ S', _ ∧ Bool.rec (motive := fun _ => O) .fail (stC S id off b kk (S.mem.get id)) (Kw b sz) = kk S'
    cases hk : Kw b sz with
    | false => exact .inl rfl
    | true =>
      obtain ⟨k1, k2⟩ := Oh hk
      show stC S id off b kk (S.mem.get id) = .fail ∨ ∃ S', _ ∧ stC S id off b kk (S.mem.get id) = kk S'
      cases hm : S.mem.get id with
      | none => exact .inl rfl
      | some c =>
        cases c with
        | box cs =>
          show Option.rec (motive := fun _ => O) .fail (fun r => kk ⟨S.next, S.mem.set id (some (.box r))⟩) (Kd off (J8 b) cs) = .fail ∨ ∃ S', _ ∧ Option.rec (motive := fun _ => O) .fail (fun r => kk ⟨S.next, S.mem.set id (some (.box r))⟩) (Kd off (J8 b) cs) = kk S'
          cases ho : Kd off (J8 b) cs with
          | none => exact .inl rfl
          | some r =>
            obtain ⟨k3, k4⟩ := Ng _ _ _ _ ho
            rw [Mu] at k3 k4
            refine .inr ⟨⟨S.next, S.mem.set id (some (.box r))⟩, ?_, rfl⟩
            simp only [Du, hm, hz, k1, k2, beq_self_eq_true, Bool.true_and]
            rw [if_pos (by rw [k2] at k3; simpa using k3), k4, k2]
        | tip m => exact .inl rfl
        | mp es => exact .inl rfl
  | e => exact .inl rfl
  | n => exact .inl rfl
  | l => exact .inl rfl
  | a => exact .inl rfl
  | t => exact .inl rfl
  | no => exact .inl rfl
  | w => exact .inl rfl
theorem oB (hck : CkF E ck) (hs : jR n o.dst = some s) : Rf ((Vp E o s k).c ck t d S) (Hy k.c ck (N4 E ck n o ⟨t, d⟩ S)) := by
  have slow : Rf ((eO E o s k).c ck t d S) (Hy k.c ck (N4 E ck n o ⟨t, d⟩ S)) := .inr (kX hs)
  unfold Vp
  split
  · rename_i hl
    show Rf (Option.rec (motive := fun _ => O) .fail (fun a => k.c ck (s.s t a) d S) ((Zp E o).v t S)) _
    cases hv : (Zp E o).v t S with
    | none => exact .inl rfl
    | some a =>
      have := eJ hl t S a hv
      refine .inr ?_
      simp only [N4, this, Le hs]; rfl
  · split
    · rename_i ty x y ho
      split
      · rename_i sz hz
        show Rf (Option.rec (motive := fun _ => O) .fail (fun a => Option.rec (motive := fun _ => O) .fail (fun b => st1 sz S b (fun S' => k.c ck (s.s t (.tup [])) d S') a) ((opG E.G y).g t)) ((opG E.G x).g t)) _
        rw [F8, F8]
        cases hx : Cz E.G t x with
        | none => exact .inl rfl
        | some a =>
          cases hy : Cz E.G t y with
          | none => exact .inl rfl
          | some b =>
            show Rf (st1 sz S b (fun S' => k.c ck (s.s t (.tup [])) d S') a) _
            rcases st1_ok (S := S) (a := a) (b := b) (kk := fun S' => k.c ck (s.s t (.tup [])) d S') hz with h | ⟨S', h1, h2⟩
            · exact .inl h
            · refine .inr (h2.trans ?_)
              simp only [N4, C0, ho, hx, hy, h1, Le hs]; rfl
      · exact .inl rfl
    · rename_i e ho
      split
      · rename_i z hz
        refine .inr ?_
        unfold kC at hz
        split at hz
        · rename_i i hi
          split at hz
          · rename_i z0 hz0
            split at hz
            · rename_i a ha
              split at hz
              · rename_i hn
                injection hz with hz; subst hz
                simp only [N4, C0, ho, Hr, hi, hz0, ha, if_pos hn, ofOptS, Le hs]; rfl
              · cases hz
            · cases hz
          · cases hz
        · cases hz
      · exact .inl rfl
    · rename_i e x ho
      show Rf (Option.rec (motive := fun _ => O) .fail (fun a => Bool.rec (motive := fun _ => O) .fail (k.c ck (s.s t (.ptr S.next 0)) d ⟨Nat.succ S.next, S.mem.set S.next (some (.box (J8 a)))⟩) (U2 a)) ((opG E.G x).g t)) _
      rw [F8]
      cases hx : Cz E.G t x with
      | none => exact .inl rfl
      | some a =>
        show Rf (Bool.rec (motive := fun _ => O) .fail (k.c ck (s.s t (.ptr S.next 0)) d ⟨Nat.succ S.next, S.mem.set S.next (some (.box (J8 a)))⟩) (U2 a)) _
        rw [W6, Mu]
        cases hn : a.noTup with
        | false => exact .inl rfl
        | true =>
          refine .inr ?_
          simp only [N4, C0, ho, hx, if_pos hn, Le hs]; rfl
    · rename_i c ho
      have fnc : ∀ (g : AV) (l : List AV), (∃ x, c.callee = .value x ∧ Cz E.G t x = some g) → Dd (Cz E.G t) c.args.toList = some l → Rf (Vt s k ck t d S l g) (Hy k.c ck (N4 E ck n o ⟨t, d⟩ S)) := by
        rintro g l ⟨x, hc, hx⟩ hl
        unfold Vt
        split
        · rename_i f first caps
          cases hF : E.F f with
          | none =>
            have : ck f (first ++ l ++ caps) S = .fail := by
              cases hr : ck f (first ++ l ++ caps) S with
              | fail => rfl
              | ret a S' => have := hck f (first ++ l ++ caps) S (by rw [hr]; exact fun e => by cases e); rw [hF] at this; cases this
              | pan a S' => have := hck f (first ++ l ++ caps) S (by rw [hr]; exact fun e => by cases e); rw [hF] at this; cases this
            rw [this]; exact .inl rfl
          | some fn =>
            refine .inr ?_
            rw [eX hs]
            simp only [N4, C0, ho, C2, hc, hx, hl, hF]
        · exact .inl rfl
      split
      · rename_i f hc
        show Rf (Option.rec (motive := fun _ => O) .fail (fun l => lG s k ck t d (ck f l S)) (Xx (c.args.toList.map (opG E.G)) t)) _
        rw [Vv]
        cases hl : Dd (Cz E.G t) c.args.toList with
        | none => exact .inl rfl
        | some l =>
          have := fnc (.fn (.func f) [] []) l ⟨_, hc, rfl⟩ hl
          simpa [Vt] using this
      · rename_i x hc hne
        show Rf (Option.rec (motive := fun _ => O) .fail (fun a => Option.rec (motive := fun _ => O) .fail (fun l => Vt s k ck t d S l a) (Xx (c.args.toList.map (opG E.G)) t)) ((opG E.G x).g t)) _
        rw [Vv, F8]
        cases hx : Cz E.G t x with
        | none => exact .inl rfl
        | some g =>
          cases hl : Dd (Cz E.G t) c.args.toList with
          | none => exact .inl rfl
          | some l => exact fnc g l ⟨x, hne, hx⟩ hl
      · exact slow
    · exact slow
/-- Guards. -/
def Uf (s : SB) (k : Bx) : Bx := ⟨fun ck t d S => k.c ck (s.s t (.tup [])) d S⟩
def J0 (a : AV) : Bool := PV.rec (motive := fun _ => Bool) (fun _ _ => false) (fun _ => false) false (fun _ _ _ _ => false) (fun _ => false) (fun _ => true) false (fun _ _ _ _ => false) a.pv
def lC (x y : Bool) : Bool := Bool.rec (motive := fun _ => Bool) (iN y) y x
def Yx (want : Bool) (x y : Bx) (a : AV) : Bx := SV.rec (motive := fun _ => Bx) (fun b => Bool.rec (motive := fun _ => Bx) y x (lC b want)) (fun _ _ => J2) (fun _ => J2) (Bool.rec (motive := fun _ => Bx) J2 y (J0 a)) a.sv
def guardB (g : GB) (want : Bool) (x y : Bx) : Bx := ⟨fun ck t d S => Option.rec (motive := fun _ => O) .fail (fun a => (Yx want x y a).c ck t d S) (g.g t)⟩
def opB (E : Env) (n : Nat) (ops : Array Oper) (o : Oper) (k : Bx) : Bx := match jR n o.dst with
  | none => J2
  | some s => match o.guard with
    | none => Vp E o s k
    | some (j, want) => match (ops[j]?).bind (·.dst) with
      | none => Uf s k
      | some d => guardB (Y0 d) want (Vp E o s k) (Uf s k)
theorem lP {ops : Array Oper} (hck : CkF E ck) : Rf ((opB E n ops o k).c ck t d S) (Hy k.c ck (Fl E ck n ops o ⟨t, d⟩ S)) := by
  unfold opB
  split
  · exact .inl rfl
  · rename_i s hs
    have skip : (Uf s k).c ck t d S = Hy k.c ck (Jw n ⟨t, d⟩ o.dst (.tup []) S) := by rw [Le hs]; rfl
    have core := oB (E := E) (n := n) (o := o) (k := k) (t := t) (d := d) (S := S) hck hs
    split
    · rename_i hg
      have : Fl E ck n ops o ⟨t, d⟩ S = N4 E ck n o ⟨t, d⟩ S := by unfold Fl Bv; rw [hg]; rfl
      rw [this]; exact core
    · rename_i j want hg
      split
      · rename_i hj
        have : Fl E ck n ops o ⟨t, d⟩ S = Jw n ⟨t, d⟩ o.dst (.tup []) S := by unfold Fl Bv; rw [hg]; simp only [hj]
        rw [this]; exact .inr skip
      · rename_i d0 hj
        show Rf (Option.rec (motive := fun _ => O) .fail (fun a => (Yx want (Vp E o s k) (Uf s k) a).c ck t d S) ((Y0 d0).g t)) _
        rw [Q2]
        cases hx : t.get d0 with
        | none => exact .inl rfl
        | some a =>
          show Rf ((Yx want (Vp E o s k) (Uf s k) a).c ck t d S) _
          unfold Yx
          cases hv : a.sv with
          | b b =>
            have ha := sv_b hv
            subst ha
            have hw : Bv ops o t = some (b == want) := by unfold Bv; rw [hg]; simp only [hj, hx]
            show Rf ((Bool.rec (motive := fun _ => Bx) (Uf s k) (Vp E o s k) (lC b want)).c ck t d S) _
            have hb : lC b want = (b == want) := by cases b <;> cases want <;> rfl
            rw [hb]
            cases hbw : (b == want) with
            | false =>
              have : Fl E ck n ops o ⟨t, d⟩ S = Jw n ⟨t, d⟩ o.dst (.tup []) S := by unfold Fl; simp only [hw, hbw]
              rw [this]; exact .inr skip
            | true =>
              have : Fl E ck n ops o ⟨t, d⟩ S = N4 E ck n o ⟨t, d⟩ S := by unfold Fl; simp only [hw, hbw]; rfl
              rw [this]; exact core
          | i => exact .inl rfl
          | s => exact .inl rfl
          | no =>
            show Rf ((Bool.rec (motive := fun _ => Bx) J2 (Uf s k) (J0 a)).c ck t d S) _
            cases hp : a.pv with
            | t vs =>
              have : J0 a = true := by unfold J0; rw [hp]
              rw [this]
              have ha := pv_t hp
              subst ha
              have hw : Bv ops o t = some false := by unfold Bv; rw [hg]; simp only [hj, hx]
              have : Fl E ck n ops o ⟨t, d⟩ S = Jw n ⟨t, d⟩ o.dst (.tup []) S := by unfold Fl; simp only [hw]
              rw [this]; exact .inr skip
            | p => have : J0 a = false := by unfold J0; rw [hp]
                   rw [this]; exact .inl rfl
            | e => have : J0 a = false := by unfold J0; rw [hp]
                   rw [this]; exact .inl rfl
            | n => have : J0 a = false := by unfold J0; rw [hp]
                   rw [this]; exact .inl rfl
            | l => have : J0 a = false := by unfold J0; rw [hp]
                   rw [this]; exact .inl rfl
            | a => have : J0 a = false := by unfold J0; rw [hp]
                   rw [this]; exact .inl rfl
            | no => have : J0 a = false := by unfold J0; rw [hp]
                    rw [this]; exact .inl rfl
            | w => have : J0 a = false := by unfold J0; rw [hp]
                   rw [this]; exact .inl rfl
def lO (E : Env) (n : Nat) (ops : Array Oper) (l : List Oper) : Bx → Bx := List.rec (motive := fun _ => Bx → Bx) (fun k => k) (fun o _ ih k => opB E n ops o (ih k)) l
end
theorem fB {E : Env} {n : Nat} {ops : Array Oper} {ck : Ep} (hck : CkF E ck) (k : Bx) : ∀ (l : List Oper) (t : T AV) (d : List Dfr) (S : St), Rf ((lO E n ops l k).c ck t d S) (Hy k.c ck (Uh E ck n ops l ⟨t, d⟩ S))
  | [], t, d, S => .inr rfl
  | o :: r, t, d, S => by
    have h := lP (E := E) (n := n) (o := o) (ops := ops) (k := lO E n ops r k) (t := t) (d := d) (S := S) hck
    show Rf ((opB E n ops o (lO E n ops r k)).c ck t d S) _
    rcases h with h | h
    · exact .inl h
    · rw [h]
      unfold Uh
      cases Fl E ck n ops o ⟨t, d⟩ S with
      | fail => exact .inl rfl
      | out e f' S' =>
        cases e with
        | normal => exact fB hck k r f'.tmps f'.dfr S'
        | exit i => exact .inr rfl
        | ret => exact .inr rfl
        | pan a => exact .inr rfl
/-- What was seen is still so. -/
def re1 (k : Bx) (ck : Ep) (t : T AV) (d : List Dfr) (S : St) (b a : Option AV) : O := Option.rec (motive := fun _ => O) .fail (fun b => Option.rec (motive := fun _ => O) .fail (fun a => Bool.rec (motive := fun _ => O) .fail (k.c ck t d S) (Gt b a)) a) b
def reB (E : Env) (ops : Array Oper) (o : Oper) (k : Bx) : Bx := match o.guard, o.dst, F5 o with
  | none, some d0, true => ⟨fun ck t d S => re1 k ck t d S ((Y0 d0).g t) ((Zp E o).v t S)⟩
  | _, _, _ => ⟨fun ck t d S => Bool.rec (motive := fun _ => O) .fail (k.c ck t d S) (Db E ops o t S)⟩
theorem reB_ok {E : Env} {ops : Array Oper} {o : Oper} {k : Bx} {ck : Ep} {t : T AV} {d : List Dfr} {S : St} : Rf ((reB E ops o k).c ck t d S) (if Db E ops o t S then k.c ck t d S else .fail) := by
  have slow : Rf (Bool.rec (motive := fun _ => O) .fail (k.c ck t d S) (Db E ops o t S)) (if Db E ops o t S then k.c ck t d S else .fail) := by
    cases Db E ops o t S <;> exact .inr rfl
  unfold reB
  split
  · rename_i d0 hg hd hl
    show Rf (re1 k ck t d S ((Y0 d0).g t) ((Zp E o).v t S)) _
    rw [Q2]
    cases hb : t.get d0 with
    | none => exact .inl rfl
    | some b =>
      cases hv : (Zp E o).v t S with
      | none => exact .inl rfl
      | some a =>
        have h1 := eJ hl t S a hv
        have h2 : Dg E ops o t S = some a := by unfold Dg Bv; rw [hg]; simp only [h1]
        have h3 : Db E ops o t S = Gt b a := by unfold Db; rw [h2, hd]; simp only [hb]
        rw [h3]
        show Rf (Bool.rec (motive := fun _ => O) .fail (k.c ck t d S) (Gt b a)) _
        cases Gt b a <;> exact .inr rfl
  · exact slow
def rsB (E : Env) (n : Nat) (ops : Array Oper) (l : List RS) : Bx → Bx := List.rec (motive := fun _ => Bx → Bx) (fun k => k) (fun s _ ih k => RS.rec (motive := fun _ => Bx) (fun o => opB E n ops o (ih k)) (fun o => reB E ops o (ih k)) s) l
theorem R1 {E : Env} {n : Nat} {ops : Array Oper} {ck : Ep} (hck : CkF E ck) (k : Bx) : ∀ (l : List RS) (t : T AV) (d : List Dfr) (S : St), Rf ((rsB E n ops l k).c ck t d S) (Hy k.c ck (Fb E ck n ops l ⟨t, d⟩ S))
  | [], t, d, S => .inr rfl
  | .op o :: r, t, d, S => by
    have h := lP (E := E) (n := n) (o := o) (ops := ops) (k := rsB E n ops r k) (t := t) (d := d) (S := S) hck
    show Rf ((opB E n ops o (rsB E n ops r k)).c ck t d S) _
    rcases h with h | h
    · exact .inl h
    · rw [h]
      have e : Fb E ck n ops (.op o :: r) ⟨t, d⟩ S = match Fl E ck n ops o ⟨t, d⟩ S with
        | .out .normal f' S' => Fb E ck n ops r f' S'
        | r => r := rfl
      rw [e]
      cases Fl E ck n ops o ⟨t, d⟩ S with
      | fail => exact .inl rfl
      | out e f' S' =>
        cases e with
        | normal => exact R1 hck k r f'.tmps f'.dfr S'
        | exit i => exact .inr rfl
        | ret => exact .inr rfl
        | pan a => exact .inr rfl
  | .re o :: r, t, d, S => by
    have h := reB_ok (E := E) (o := o) (ops := ops) (k := rsB E n ops r k) (ck := ck) (t := t) (d := d) (S := S)
    show Rf ((reB E ops o (rsB E n ops r k)).c ck t d S) _
    have e : Fb E ck n ops (.re o :: r) ⟨t, d⟩ S = if Db E ops o t S then Fb E ck n ops r ⟨t, d⟩ S else .fail := rfl
    rw [e]
    rcases h with h | h
    · exact .inl h
    · rw [h]
      cases Db E ops o t S with
      | false => exact .inl rfl
      | true => exact R1 hck k r t d S
def nU (E : Env) (n : Nat) (ops : Array Oper) (k : Bx) : Bx := ⟨fun ck t d S => Hy k.c ck (P5 E ck n ops ⟨t, d⟩ S)⟩
def Pb (l : List RS) : Bool := l.all fun s => match s with
  | .op o => F5 o
  | .re _ => true
def fixB (E : Env) (n : Nat) (ops : Array Oper) (l : List RS) (k : Bx) : Bx := ⟨fun ck t d S => Hy k.c ck (Ko ⟨Gb ops.toList t, d⟩ ((rsB E n ops l Ol).c ck t d S))⟩
def gH (E : Env) (n : Nat) (ops : Array Oper) (k : Bx) : Bx :=
  let ms := bm ops.toList []
  let order := Kr ops ms ops.size (List.range ops.size) 0
  if Mz ops ms order then (match Kv ops ms order [] with
    | some rs => if Pb rs then rsB E n ops rs k else fixB E n ops rs k
    | none => nU E n ops k) else nU E n ops k
def nX (E : Env) (n : Nat) (ops : Array Oper) (x : FlP) (k : Bx) : Bx := match Mv ops x with
  | some rs => if x.d < n then ⟨fun ck t d S => Hy k.c ck (Ko ⟨Gb ops.toList t, d⟩ ((rsB E n ops rs Ol).c ck (T.set t x.d none) d S))⟩ else J2
  | none => J2
def nW (E : Env) (n : Nat) (ops : Array Oper) (x : MkX) (k : Bx) : Bx := match Qx ops x with
  | some rs => if aN E.P n ops x = true then ⟨fun ck t d S => Hy k.c ck (Ko ⟨Gb ops.toList t, d⟩ ((rsB E n ops rs Ol).c ck (Iy E.P ops x.mks t) d S))⟩ else J2
  | none => J2
def Rb (E : Env) (n : Nat) (ops : Array Oper) (k : Bx) : Bx := match Lu E.P ops with
  | some x => nX E n ops x k
  | none => match Nk E.P ops with
    | some x => nW E n ops x k
    | none => gH E n ops k
theorem Nv (ck : Ep) (r : O) : Hy Ol.c ck r = r := by
  cases r with
  | fail => rfl
  | out e f S => cases e <;> rfl
theorem Ob {E : Env} {ck : Ep} {n : Nat} {ops : Array Oper} {fb : Fr} : ∀ (l : List RS) (f : Fr) (S : St), Pb l = true → Ko fb (Fb E ck n ops l f S) = Fb E ck n ops l f S
  | [], f, S, h => rfl
  | .op o :: r, f, S, h => by
    unfold Pb at h
    rw [List.all_cons, Bool.and_eq_true] at h
    have e : Fb E ck n ops (.op o :: r) f S = match Fl E ck n ops o f S with
        | .out .normal f' S' => Fb E ck n ops r f' S'
        | r => r := rfl
    rw [e, Mi, Lk h.1]
    cases Dg E ops o f.tmps S with
    | none => rfl
    | some a =>
      simp only
      rw [K9]
      cases okD n o.dst with
      | false => rfl
      | true => exact Ob r _ S h.2
  | .re o :: r, f, S, h => by
    unfold Pb at h
    rw [List.all_cons, Bool.and_eq_true] at h
    have e : Fb E ck n ops (.re o :: r) f S = if Db E ops o f.tmps S then Fb E ck n ops r f S else .fail := rfl
    rw [e]
    cases Db E ops o f.tmps S with
    | false => rfl
    | true => exact Ob r f S h.2
theorem nV {E : Env} {n : Nat} {ops : Array Oper} {ck : Ep} (hck : CkF E ck) (k : Bx) (t : T AV) (d : List Dfr) (S : St) : Rf ((gH E n ops k).c ck t d S) (Hy k.c ck (Gn E ck n ops ⟨t, d⟩ S)) := by
  have slow : Rf ((nU E n ops k).c ck t d S) (Hy k.c ck (Gn E ck n ops ⟨t, d⟩ S)) := by
    refine .inr ?_
    show Hy k.c ck (P5 E ck n ops ⟨t, d⟩ S) = _
    rw [Sf]
  unfold gH
  simp only
  split
  · rename_i hst
    split
    · rename_i rs hrs
      have e : Fb E ck n ops rs ⟨t, d⟩ S = .fail ∨ Gn E ck n ops ⟨t, d⟩ S = Ko ⟨Gb ops.toList t, d⟩ (Fb E ck n ops rs ⟨t, d⟩ S) := by
        unfold Gn
        simp only
        rw [if_pos hst]
        exact Jb _ rs _ _ [] hrs (fun _ h => absurd h List.not_mem_nil)
      split
      · rename_i hlk
        have h := R1 (E := E) (n := n) (ops := ops) hck k rs t d S
        rcases h with h | h
        · exact .inl h
        · rw [h]
          rcases e with e | e
          · rw [e]; exact .inl rfl
          · rw [e, Ob rs _ _ hlk]; exact .inr rfl
      · have h := R1 (E := E) (n := n) (ops := ops) hck Ol rs t d S
        rw [Nv] at h
        show Rf (Hy k.c ck (Ko ⟨Gb ops.toList t, d⟩ ((rsB E n ops rs Ol).c ck t d S))) _
        rcases h with h | h
        · rw [h]; exact .inl rfl
        · rw [h]
          rcases e with e | e
          · rw [e]; exact .inl rfl
          · rw [e]; exact .inr rfl
    · exact slow
  · exact slow
theorem nY {E : Env} {n : Nat} {ops : Array Oper} {ck : Ep} (hck : CkF E ck) (k : Bx) (t : T AV) (d : List Dfr) (S : St) : Rf ((Rb E n ops k).c ck t d S) (Hy k.c ck (Dr E ck n ops ⟨t, d⟩ S)) := by
  cases hx : Lu E.P ops with
  | some x =>
    have e1 : Rb E n ops k = nX E n ops x k := by unfold Rb; rw [hx]
    have e2 : Dr E ck n ops ⟨t, d⟩ S = Nu E x ck n ops ⟨t, d⟩ S := by unfold Dr; rw [hx]
    rw [e1, e2]
    unfold nX Nu
    cases hrs : Mv ops x with
    | none => exact .inl rfl
    | some rs =>
      simp only
      split
      · have h := R1 (E := E) (n := n) (ops := ops) hck Ol rs (T.set t x.d none) d S
        rw [Nv] at h
        show Rf (Hy k.c ck (Ko ⟨Gb ops.toList t, d⟩ ((rsB E n ops rs Ol).c ck (T.set t x.d none) d S))) _
        rcases h with h | h
        · rw [h]; exact .inl rfl
        · rw [h]; exact .inr rfl
      · exact .inl rfl
  | none =>
    cases hy : Nk E.P ops with
    | some x =>
      have e1 : Rb E n ops k = nW E n ops x k := by unfold Rb; rw [hx]; simp only [hy]
      have e2 : Dr E ck n ops ⟨t, d⟩ S = Nt E x ck n ops ⟨t, d⟩ S := by unfold Dr; rw [hx]; simp only [hy]
      rw [e1, e2]
      unfold nW Nt
      cases hrs : Qx ops x with
      | none => exact .inl rfl
      | some rs =>
        simp only
        cases hc : aN E.P n ops x with
        | true =>
          have h := R1 (E := E) (n := n) (ops := ops) hck Ol rs (Iy E.P ops x.mks t) d S
          rw [Nv] at h
          rw [if_pos rfl, if_pos rfl]
          show Rf (Hy k.c ck (Ko ⟨Gb ops.toList t, d⟩ ((rsB E n ops rs Ol).c ck (Iy E.P ops x.mks t) d S))) _
          rcases h with h | h
          · rw [h]; exact .inl rfl
          · rw [h]; exact .inr rfl
        | false => rw [if_neg (by simp), if_neg (by simp)]; exact .inl rfl
    | none =>
      have e1 : Rb E n ops k = gH E n ops k := by unfold Rb; rw [hx]; simp only [hy]
      have e2 : Dr E ck n ops ⟨t, d⟩ S = Gn E ck n ops ⟨t, d⟩ S := by unfold Dr; rw [hx]; simp only [hy]
      rw [e1, e2]
      exact nV hck k t d S
def Pd (E : Env) : I4 := fun ck n ops f S => match Lu E.P ops with
  | some x => Nu E x ck n ops f S
  | none => match Nk E.P ops with
    | some x => Nt E x ck n ops f S
    | none => P5 E ck n ops f S
theorem Zb (E : Env) : Pd E = Dr E := by
  unfold Pd
  rw [Sf]
  rfl
end Go.Ax
