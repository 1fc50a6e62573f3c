/-
  Code made ready once and run many times: looks at frames, numbers, rows in few of the kernel's steps.
-/
import Derived.Test.YtjgknelmjdallaaGreatDoorFcU
noncomputable section
namespace Go.Ax
open Go.RowKit
set_option linter.unusedVariables false
set_option linter.unusedSimpArgs false

abbrev Ck := CallK → T AV → List Dfr → St → O
structure Bx where
  c : Ck
structure GB where
  g : T AV → Option AV
structure SB where
  s : T AV → AV → T AV
structure VB where
  v : T AV → St → Option AV
structure FB where
  f : CallK → List AV → St → R

/-- Places of a frame. -/
def gEnd : GB := ⟨fun t => T.rec (motive := fun _ => Option AV) none (fun v _ _ _ _ _ _ _ _ => v) t⟩
def gC0 (b : GB) : GB := ⟨fun t => T.rec (motive := fun _ => Option AV) none (fun _ c _ _ _ _ _ _ _ => b.g c) t⟩
def gC1 (b : GB) : GB := ⟨fun t => T.rec (motive := fun _ => Option AV) none (fun _ _ c _ _ _ _ _ _ => b.g c) t⟩
def gC2 (b : GB) : GB := ⟨fun t => T.rec (motive := fun _ => Option AV) none (fun _ _ _ c _ _ _ _ _ => b.g c) t⟩
def gC3 (b : GB) : GB := ⟨fun t => T.rec (motive := fun _ => Option AV) none (fun _ _ _ _ c _ _ _ _ => b.g c) t⟩
def pathG (p : List D4) : GB := List.rec (motive := fun _ => GB) gEnd (fun d _ ih => D4.rec (motive := fun _ => GB) (gC0 ih) (gC1 ih) (gC2 ih) (gC3 ih) d) p
theorem pathG_ok : ∀ (p : List D4) (t : T AV), (pathG p).g t = t.getP p
  | [], .leaf => rfl
  | [], .node .. => rfl
  | d :: p, .leaf => by cases d <;> rfl
  | d :: p, .node v c0 c1 c2 c3 => by
    cases d
    · exact pathG_ok p c0
    · exact pathG_ok p c1
    · exact pathG_ok p c2
    · exact pathG_ok p c3
def sEnd : SB := ⟨fun t a => T.rec (motive := fun _ => T AV) (.node (some a) .leaf .leaf .leaf .leaf) (fun _ c0 c1 c2 c3 _ _ _ _ => .node (some a) c0 c1 c2 c3) t⟩
def sC0 (b : SB) : SB := ⟨fun t a => T.rec (motive := fun _ => T AV) (.node none (b.s .leaf a) .leaf .leaf .leaf) (fun v c0 c1 c2 c3 _ _ _ _ => .node v (b.s c0 a) c1 c2 c3) t⟩
def sC1 (b : SB) : SB := ⟨fun t a => T.rec (motive := fun _ => T AV) (.node none .leaf (b.s .leaf a) .leaf .leaf) (fun v c0 c1 c2 c3 _ _ _ _ => .node v c0 (b.s c1 a) c2 c3) t⟩
def sC2 (b : SB) : SB := ⟨fun t a => T.rec (motive := fun _ => T AV) (.node none .leaf .leaf (b.s .leaf a) .leaf) (fun v c0 c1 c2 c3 _ _ _ _ => .node v c0 c1 (b.s c2 a) c3) t⟩
def sC3 (b : SB) : SB := ⟨fun t a => T.rec (motive := fun _ => T AV) (.node none .leaf .leaf .leaf (b.s .leaf a)) (fun v c0 c1 c2 c3 _ _ _ _ => .node v c0 c1 c2 (b.s c3 a)) t⟩
def pathS (p : List D4) : SB := List.rec (motive := fun _ => SB) sEnd (fun d _ ih => D4.rec (motive := fun _ => SB) (sC0 ih) (sC1 ih) (sC2 ih) (sC3 ih) d) p
theorem pathS_ok : ∀ (p : List D4) (t : T AV) (a : AV), (pathS p).s t a = T.setP p t (some a)
  | [], .leaf, a => rfl
  | [], .node .., a => rfl
  | d :: p, .leaf, a => by
    have ih := pathS_ok p .leaf a
    cases d
    · show T.node none ((pathS p).s .leaf a) _ _ _ = T.node none (T.setP p .leaf (some a)) _ _ _; rw [ih]
    · show T.node none _ ((pathS p).s .leaf a) _ _ = T.node none _ (T.setP p .leaf (some a)) _ _; rw [ih]
    · show T.node none _ _ ((pathS p).s .leaf a) _ = T.node none _ _ (T.setP p .leaf (some a)) _; rw [ih]
    · show T.node none _ _ _ ((pathS p).s .leaf a) = T.node none _ _ _ (T.setP p .leaf (some a)); rw [ih]
  | d :: p, .node v c0 c1 c2 c3, a => by
    have ih := fun t => pathS_ok p t a
    cases d
    · show T.node v ((pathS p).s c0 a) _ _ _ = T.node v (T.setP p c0 (some a)) _ _ _; rw [ih]
    · show T.node v _ ((pathS p).s c1 a) _ _ = T.node v _ (T.setP p c1 (some a)) _ _; rw [ih]
    · show T.node v _ _ ((pathS p).s c2 a) _ = T.node v _ _ (T.setP p c2 (some a)) _; rw [ih]
    · show T.node v _ _ _ ((pathS p).s c3 a) = T.node v _ _ _ (T.setP p c3 (some a)); rw [ih]
def getG (n : Nat) : GB := pathG (path n)
def setS (n : Nat) : SB := pathS (path n)
theorem getG_ok (n : Nat) (t : T AV) : (getG n).g t = t.get n := pathG_ok _ _
theorem setS_ok (n : Nat) (t : T AV) (a : AV) : (setS n).s t a = t.set n (some a) := pathS_ok _ _ _
def constG (x : Option AV) : GB := ⟨fun _ => x⟩
def opG (G : Gl) (x : Operand) : GB := Operand.rec (motive := fun _ => GB) (fun t => getG t) (fun v => constG (ofConst 8 v)) (fun g => constG (evalO G .leaf (.global g))) (fun k => constG (some (.fn (.func k) [] []))) x
theorem opG_ok (G : Gl) (x : Operand) (f : T AV) : (opG G x).g f = evalO G f x := by
  cases x with
  | tmp t => exact getG_ok t f
  | _ => rfl

/-- A value, by what it is looked at for. -/
inductive SV where
  | b (x : Bool)
  | i (k : IntKind) (x : Int)
  | s (l : List UInt8)
  | no
inductive PV where
  | p (id off : Nat)
  | e (cs : List AV)
  | n
  | l (tok off sz : Nat) (es : List AV)
  | a (cs : List AV)
  | t (cs : List AV)
  | no
  | w (id off n sz : Nat)
def svV (x : Value) : SV := Value.rec (motive_1 := fun _ => SV) (motive_2 := fun _ => Unit) (motive_3 := fun _ => Unit) SV.b SV.i (fun _ _ => .no) (fun _ _ _ => .no) (fun s => .s s.data.toList) (fun _ => .no) (fun _ _ _ => .no) (fun _ => .no) (fun _ => .no) (fun _ _ _ _ _ => .no) .no (fun _ _ _ => .no) .no (fun _ _ => .no) (fun _ _ => .no) (fun _ _ => ()) () (fun _ _ _ _ => ()) x
def AV.sv (a : AV) : SV := AV.rec (motive_1 := fun _ => SV) (motive_2 := fun _ => Unit) svV .no (fun _ _ => .no) (fun _ _ => .no) .no (fun _ _ _ _ _ => .no) .no (fun _ => .no) (fun _ _ _ _ _ => .no) (fun _ _ _ => .no) (fun _ _ => .no) (fun _ _ => .no) (fun _ _ _ _ => .no) () (fun _ _ _ _ => ()) a
def AV.pv (a : AV) : PV := AV.rec (motive_1 := fun _ => PV) (motive_2 := fun _ => Unit) (fun _ => .no) .no PV.p (fun cs _ => .e cs) .n (fun tok off sz es _ => .l tok off sz es) .no (fun _ => .no) (fun _ _ _ _ _ => .no) (fun _ _ _ => .no) (fun cs _ => .a cs) (fun cs _ => .t cs) PV.w () (fun _ _ _ _ => ()) a
theorem sv_b {a : AV} {x : Bool} (h : a.sv = .b x) : a = .v (.bool x) := by
  cases a with
  | v y => cases y <;> cases h; rfl
  | _ => cases h
theorem sv_i {a : AV} {k : IntKind} {x : Int} (h : a.sv = .i k x) : a = .v (.int k x) := by
  cases a with
  | v y => cases y <;> cases h; rfl
  | _ => cases h
theorem sv_s {a : AV} {l : List UInt8} (h : a.sv = .s l) : ∃ s : ByteArray, a = .v (.string s) ∧ s.data.toList = l := by
  cases a with
  | v y => cases y <;> cases h; exact ⟨_, rfl, rfl⟩
  | _ => cases h
theorem pv_p {a : AV} {id off : Nat} (h : a.pv = .p id off) : a = .ptr id off := by cases a <;> cases h; rfl
theorem pv_e {a : AV} {cs : List AV} (h : a.pv = .e cs) : a = .ep cs := by cases a <;> cases h; rfl
theorem pv_n {a : AV} (h : a.pv = .n) : a = .nils := by cases a <;> cases h; rfl
theorem pv_l {a : AV} {tok off sz : Nat} {es : List AV} (h : a.pv = .l tok off sz es) : a = .sl tok off sz es := by cases a <;> cases h; rfl
theorem pv_a {a : AV} {cs : List AV} (h : a.pv = .a cs) : a = .agg cs := by cases a <;> cases h; rfl
theorem pv_w {a : AV} {id off n sz : Nat} (h : a.pv = .w id off n sz) : a = .bs id off n sz := by cases a <;> cases h; rfl
theorem pv_t {a : AV} {cs : List AV} (h : a.pv = .t cs) : a = .tup cs := by cases a <;> cases h; rfl

/-- Rows. -/
def lenR {α : Type} (l : List α) : Nat := List.rec (motive := fun _ => Nat) 0 (fun _ _ n => Nat.succ n) l
theorem lenR_eq {α : Type} : ∀ l : List α, lenR l = l.length
  | [] => rfl
  | _ :: r => congrArg Nat.succ (lenR_eq r)
def atR {α : Type} (n : Nat) : List α → Option α := Nat.rec (motive := fun _ => List α → Option α) (fun l => List.rec (motive := fun _ => Option α) none (fun c _ _ => some c) l) (fun _ ih l => List.rec (motive := fun _ => Option α) none (fun _ r _ => ih r) l) n
theorem atR_eq {α : Type} : ∀ (n : Nat) (l : List α), atR n l = l[n]?
  | 0, [] => rfl
  | 0, _ :: _ => rfl
  | n + 1, [] => rfl
  | n + 1, _ :: r => (atR_eq n r).trans (by simp)
def dropR {α : Type} (n : Nat) : List α → Option (List α) := Nat.rec (motive := fun _ => List α → Option (List α)) (fun l => some l) (fun _ ih l => List.rec (motive := fun _ => Option (List α)) none (fun _ r _ => ih r) l) n
theorem dropR_some {α : Type} : ∀ (n : Nat) (l r : List α), dropR n l = some r → n ≤ l.length ∧ r = l.drop n
  | 0, l, r, h => by injection h with h; subst h; exact ⟨Nat.zero_le _, rfl⟩
  | n + 1, [], r, h => by cases h
  | n + 1, _ :: l, r, h => by
    obtain ⟨h1, h2⟩ := dropR_some n l r h
    exact ⟨by simpa using h1, h2⟩
def consO {α : Type} (c : α) (o : Option (List α)) : Option (List α) := Option.rec (motive := fun _ => Option (List α)) none (fun r => some (c :: r)) o
def takeR {α : Type} (n : Nat) : List α → Option (List α) := Nat.rec (motive := fun _ => List α → Option (List α)) (fun l => some []) (fun _ ih l => List.rec (motive := fun _ => Option (List α)) none (fun c r _ => consO c (ih r)) l) n
theorem takeR_some {α : Type} : ∀ (n : Nat) (l r : List α), takeR n l = some r → n ≤ l.length ∧ r = l.take n
  | 0, l, r, h => by injection h with h; subst h; exact ⟨Nat.zero_le _, rfl⟩
  | n + 1, [], r, h => by cases h
  | n + 1, c :: l, r, h => by
    have h : consO c (takeR n l) = some r := h
    cases hq : takeR n l with
    | none => rw [hq] at h; cases h
    | some q =>
      rw [hq] at h
      have h : some (c :: q) = some r := h
      injection h with h; subst h
      obtain ⟨h1, h2⟩ := takeR_some n l q hq
      exact ⟨by simpa using h1, by rw [h2]; rfl⟩
/-- Cells put in place of others. -/
def overR {α : Type} (ys : List α) : List α → Option (List α) := List.rec (motive := fun _ => List α → Option (List α)) (fun l => some l) (fun y _ ih l => List.rec (motive := fun _ => Option (List α)) none (fun _ r _ => consO y (ih r)) l) ys
theorem overR_some {α : Type} : ∀ (ys l r : List α), overR ys l = some r → ys.length ≤ l.length ∧ r = ys ++ l.drop ys.length
  | [], l, r, h => by injection h with h; subst h; exact ⟨Nat.zero_le _, rfl⟩
  | y :: ys, [], r, h => by cases h
  | y :: ys, c :: l, r, h => by
    have h : consO y (overR ys l) = some r := h
    cases hq : overR ys l with
    | none => rw [hq] at h; cases h
    | some q =>
      rw [hq] at h
      have h : some (y :: q) = some r := h
      injection h with h; subst h
      obtain ⟨h1, h2⟩ := overR_some ys l q hq
      exact ⟨by simpa using h1, by rw [h2]; rfl⟩
def overAtR {α : Type} (n : Nat) (ys : List α) : List α → Option (List α) := Nat.rec (motive := fun _ => List α → Option (List α)) (fun l => overR ys l) (fun _ ih l => List.rec (motive := fun _ => Option (List α)) none (fun c r _ => consO c (ih r)) l) n
theorem overAtR_some {α : Type} (ys : List α) : ∀ (n : Nat) (l r : List α), overAtR n ys l = some r → n + ys.length ≤ l.length ∧ r = l.take n ++ ys ++ l.drop (n + ys.length)
  | 0, l, r, h => by
    obtain ⟨h1, h2⟩ := overR_some ys l r h
    exact ⟨by omega, by rw [h2]; simp⟩
  | n + 1, [], r, h => by cases h
  | n + 1, c :: l, r, h => by
    have h : consO c (overAtR n ys l) = some r := h
    cases hq : overAtR n ys l with
    | none => rw [hq] at h; cases h
    | some q =>
      rw [hq] at h
      have h : some (c :: q) = some r := h
      injection h with h; subst h
      obtain ⟨h1, h2⟩ := overAtR_some ys n l q hq
      refine ⟨by simp; omega, ?_⟩
      rw [h2, show n + 1 + ys.length = (n + ys.length) + 1 by omega]
      simp
/-- Numbers. -/
def ltI1 (a : Nat) (y : Int) : Bool := Int.rec (motive := fun _ => Bool) (fun b => Nat.ble (Nat.succ a) b) (fun _ => false) y
def ltI2 (a : Nat) (y : Int) : Bool := Int.rec (motive := fun _ => Bool) (fun _ => true) (fun b => Nat.ble (Nat.succ b) a) y
def ltI (x y : Int) : Bool := Int.rec (motive := fun _ => Int → Bool) ltI1 ltI2 x y
theorem ltI_eq (x y : Int) : ltI x y = decide (x < y) := by
  cases x <;> cases y
  · rename_i a b
    show Nat.ble (a + 1) b = _
    by_cases h : a < b
    · rw [Nat.ble_eq_true_of_le h]; symm; rw [decide_eq_true_iff]; show (a : Int) < b; omega
    · have : Nat.ble (a + 1) b = false := by
        cases hb : Nat.ble (a + 1) b with
        | false => rfl
        | true => exact absurd (Nat.le_of_ble_eq_true hb) h
      rw [this]; symm; rw [decide_eq_false_iff_not]; show ¬ (a : Int) < b; omega
  · rename_i a b; show false = _; symm; rw [decide_eq_false_iff_not]; simp only [Int.ofNat_eq_natCast]; omega
  · rename_i a b; show true = _; symm; rw [decide_eq_true_iff]; simp only [Int.ofNat_eq_natCast]; omega
  · rename_i a b
    show Nat.ble (b + 1) a = _
    by_cases h : b < a
    · rw [Nat.ble_eq_true_of_le h]; symm; rw [decide_eq_true_iff]; omega
    · have : Nat.ble (b + 1) a = false := by
        cases hb : Nat.ble (b + 1) a with
        | false => rfl
        | true => exact absurd (Nat.le_of_ble_eq_true hb) h
      rw [this]; symm; rw [decide_eq_false_iff_not]; omega
def eqI1 (a : Nat) (y : Int) : Bool := Int.rec (motive := fun _ => Bool) (fun b => Nat.beq a b) (fun _ => false) y
def eqI2 (a : Nat) (y : Int) : Bool := Int.rec (motive := fun _ => Bool) (fun _ => false) (fun b => Nat.beq a b) y
def eqI (x y : Int) : Bool := Int.rec (motive := fun _ => Int → Bool) eqI1 eqI2 x y
theorem beq_dec (a b : Nat) : Nat.beq a b = decide (a = b) := by
  cases h : Nat.beq a b with
  | true => rw [Nat.eq_of_beq_eq_true h]; simp
  | false => symm; rw [decide_eq_false_iff_not]; exact Nat.ne_of_beq_eq_false h
theorem eqI_eq (x y : Int) : eqI x y = (x == y) := by
  rw [show (x == y) = decide (x = y) from rfl]
  cases x <;> cases y
  · rename_i a b; show Nat.beq a b = _; rw [beq_dec]; congr 1; simp; omega
  · rename_i a b; show false = _; symm; rw [decide_eq_false_iff_not]; exact fun e => by cases e
  · rename_i a b; show false = _; symm; rw [decide_eq_false_iff_not]; exact fun e => by cases e
  · rename_i a b; show Nat.beq a b = _; rw [beq_dec]; congr 1; simp
def notR (b : Bool) : Bool := Bool.rec (motive := fun _ => Bool) true false b
theorem notR_eq (b : Bool) : notR b = !b := by cases b <;> rfl
def kI8 (k : IntKind) : Bool := IntKind.rec (motive := fun _ => Bool) true false false false false false false false k
def kI16 (k : IntKind) : Bool := IntKind.rec (motive := fun _ => Bool) false true false false false false false false k
def kI32 (k : IntKind) : Bool := IntKind.rec (motive := fun _ => Bool) false false true false false false false false k
def kI64 (k : IntKind) : Bool := IntKind.rec (motive := fun _ => Bool) false false false true false false false false k
def kU8 (k : IntKind) : Bool := IntKind.rec (motive := fun _ => Bool) false false false false true false false false k
def kU16 (k : IntKind) : Bool := IntKind.rec (motive := fun _ => Bool) false false false false false true false false k
def kU32 (k : IntKind) : Bool := IntKind.rec (motive := fun _ => Bool) false false false false false false true false k
def kU64 (k : IntKind) : Bool := IntKind.rec (motive := fun _ => Bool) false false false false false false false true k
def eqK (k k' : IntKind) : Bool := IntKind.rec (motive := fun _ => IntKind → Bool) kI8 kI16 kI32 kI64 kU8 kU16 kU32 kU64 k k'
theorem eqK_eq {k k' : IntKind} (h : eqK k k' = true) : k = k' := by cases k <;> cases k' <;> first | rfl | cases h
def subNR1 (a b : Nat) (d : Nat) : Int := Nat.rec (motive := fun _ => Int) (.ofNat (Nat.sub a b)) (fun e _ => .negSucc e) d
def subNR (a b : Nat) : Int := subNR1 a b (Nat.sub b a)
theorem subNR_eq (a b : Nat) : subNR a b = (a : Int) - b := by
  unfold subNR
  cases h : Nat.sub b a with
  | zero =>
    have h : b - a = 0 := h
    show Int.ofNat (a - b) = _
    rw [Int.ofNat_eq_natCast]; omega
  | succ e =>
    have h : b - a = e + 1 := h
    show Int.negSucc e = _
    omega
def addI1 (a : Nat) (y : Int) : Int := Int.rec (motive := fun _ => Int) (fun b => .ofNat (Nat.add a b)) (fun b => subNR a (Nat.succ b)) y
def addI2 (a : Nat) (y : Int) : Int := Int.rec (motive := fun _ => Int) (fun b => subNR b (Nat.succ a)) (fun b => .negSucc (Nat.succ (Nat.add a b))) y
def addI (x y : Int) : Int := Int.rec (motive := fun _ => Int → Int) addI1 addI2 x y
theorem addI_eq (x y : Int) : addI x y = x + y := by
  cases x <;> cases y
  · rfl
  · rename_i a b; show subNR a (b + 1) = _; rw [subNR_eq]; simp only [Int.ofNat_eq_natCast]; omega
  · rename_i a b; show subNR b (a + 1) = _; rw [subNR_eq]; simp only [Int.ofNat_eq_natCast]; omega
  · rfl
def subI1 (a : Nat) (y : Int) : Int := Int.rec (motive := fun _ => Int) (fun b => subNR a b) (fun b => .ofNat (Nat.succ (Nat.add a b))) y
def subI2 (a : Nat) (y : Int) : Int := Int.rec (motive := fun _ => Int) (fun b => .negSucc (Nat.add a b)) (fun b => subNR b a) y
def subI (x y : Int) : Int := Int.rec (motive := fun _ => Int → Int) subI1 subI2 x y
theorem subI_eq (x y : Int) : subI x y = x - y := by
  cases x <;> cases y
  · rename_i a b; exact subNR_eq a b
  · rename_i a b; show ((a + b + 1 : Nat) : Int) = _; simp only [Int.ofNat_eq_natCast]; omega
  · rename_i a b; show Int.negSucc (a + b) = _; simp only [Int.ofNat_eq_natCast]; omega
  · rename_i a b; show subNR b a = _; rw [subNR_eq]; omega
def in64 (x : Int) : Bool := Int.rec (motive := fun _ => Bool) (fun n => Nat.ble n 9223372036854775807) (fun n => Nat.ble n 9223372036854775807) x
def wrap64R (x : Int) : Int := Bool.rec (motive := fun _ => Int) (IntKind.i64.wrap x) x (in64 x)
theorem wrap64R_eq (x : Int) : wrap64R x = IntKind.i64.wrap x := by
  unfold wrap64R
  cases h : in64 x with
  | false => rfl
  | true =>
    show x = _
    have hb : -9223372036854775808 ≤ x ∧ x ≤ 9223372036854775807 := by
      cases x with
      | ofNat n => have := Nat.le_of_ble_eq_true h; simp only [Int.ofNat_eq_natCast]; omega
      | negSucc n => have := Nat.le_of_ble_eq_true h; omega
    show x = (if (true && decide (x % (2 ^ 64 : Int) ≥ (2 ^ (64 - 1) : Int))) = true then x % (2 ^ 64 : Int) - (2 ^ 64 : Int) else x % (2 ^ 64 : Int))
    simp only [Bool.true_and, decide_eq_true_iff]
    have e1 : (2 ^ 64 : Int) = 18446744073709551616 := by decide
    have e2 : (2 ^ (64 - 1) : Int) = 9223372036854775808 := by decide
    rw [e1, e2]
    split <;> omega
def wrapR (k : IntKind) (x : Int) : Int := Bool.rec (motive := fun _ => Int) (k.wrap x) (wrap64R x) (kI64 k)
theorem wrapR_eq (k : IntKind) (x : Int) : wrapR k x = k.wrap x := by
  cases k <;> first | rfl | exact wrap64R_eq x
end Go.Ax
