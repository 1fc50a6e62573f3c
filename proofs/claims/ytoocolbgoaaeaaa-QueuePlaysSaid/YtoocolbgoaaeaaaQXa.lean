/-
  Code made ready once and run many times: looks at frames, numbers, rows in few of the kernel's steps.
-/
import Derived.Test.YtoocolbgoaaeaaaQSk
noncomputable section
namespace Go.Ax
open Go.RowKit
set_option linter.unusedVariables false
set_option linter.unusedSimpArgs false

abbrev Ck := CallK → T AV → List Dfr → St → O
structure Bx where
  c : Ck
structure GB where
  g : T AV → Option AV
structure SB where
  s : T AV → AV → T AV
structure VB where
  v : T AV → St → Option AV
structure FB where
  f : CallK → List AV → St → R

/-- Places of a frame. -/
def gEnd : GB := ⟨fun t => T.rec (motive := fun _ => Option AV) none (fun v _ _ _ _ _ _ _ _ => v) t⟩
def gC0 (b : GB) : GB := ⟨fun t => T.rec (motive := fun _ => Option AV) none (fun _ c _ _ _ _ _ _ _ => b.g c) t⟩
def gC1 (b : GB) : GB := ⟨fun t => T.rec (motive := fun _ => Option AV) none (fun _ _ c _ _ _ _ _ _ => b.g c) t⟩
def gC2 (b : GB) : GB := ⟨fun t => T.rec (motive := fun _ => Option AV) none (fun _ _ _ c _ _ _ _ _ => b.g c) t⟩
def gC3 (b : GB) : GB := ⟨fun t => T.rec (motive := fun _ => Option AV) none (fun _ _ _ _ c _ _ _ _ => b.g c) t⟩
def pathG (p : List D4) : GB := List.rec (motive := fun _ => GB) gEnd (fun d _ ih => D4.rec (motive := fun _ => GB) (gC0 ih) (gC1 ih) (gC2 ih) (gC3 ih) d) p
theorem pathG_ok : ∀ (p : List D4) (t : T AV), (pathG p).g t = t.getP p
  | [], .leaf => rfl
  | [], .node .. => rfl
  | d :: p, .leaf => by cases d <;> rfl
  | d :: p, .node v c0 c1 c2 c3 => by
    cases d
    · exact pathG_ok p c0
    · exact pathG_ok p c1
    · exact pathG_ok p c2
    · exact pathG_ok p c3
def sEnd : SB := ⟨fun t a => T.rec (motive := fun _ => T AV) (.node (some a) .leaf .leaf .leaf .leaf) (fun _ c0 c1 c2 c3 _ _ _ _ => .node (some a) c0 c1 c2 c3) t⟩
def sC0 (b : SB) : SB := ⟨fun t a => T.rec (motive := fun _ => T AV) (.node none (b.s .leaf a) .leaf .leaf .leaf) (fun v c0 c1 c2 c3 _ _ _ _ => .node v (b.s c0 a) c1 c2 c3) t⟩
def sC1 (b : SB) : SB := ⟨fun t a => T.rec (motive := fun _ => T AV) (.node none .leaf (b.s .leaf a) .leaf .leaf) (fun v c0 c1 c2 c3 _ _ _ _ => .node v c0 (b.s c1 a) c2 c3) t⟩
def sC2 (b : SB) : SB := ⟨fun t a => T.rec (motive := fun _ => T AV) (.node none .leaf .leaf (b.s .leaf a) .leaf) (fun v c0 c1 c2 c3 _ _ _ _ => .node v c0 c1 (b.s c2 a) c3) t⟩
def sC3 (b : SB) : SB := ⟨fun t a => T.rec (motive := fun _ => T AV) (.node none .leaf .leaf .leaf (b.s .leaf a)) (fun v c0 c1 c2 c3 _ _ _ _ => .node v c0 c1 c2 (b.s c3 a)) t⟩
def pathS (p : List D4) : SB := List.rec (motive := fun _ => SB) sEnd (fun d _ ih => D4.rec (motive := fun _ => SB) (sC0 ih) (sC1 ih) (sC2 ih) (sC3 ih) d) p
theorem pathS_ok : ∀ (p : List D4) (t : T AV) (a : AV), (pathS p).s t a = T.setP p t (some a)
  | [], .leaf, a => rfl
  | [], .node .., a => rfl
  | d :: p, .leaf, a => by
    have ih := pathS_ok p .leaf a
    cases d
    · show T.node none ((pathS p).s .leaf a) _ _ _ = T.node none (T.setP p .leaf (some a)) _ _ _; rw [ih]
    · show T.node none _ ((pathS p).s .leaf a) _ _ = T.node none _ (T.setP p .leaf (some a)) _ _; rw [ih]
    · show T.node none _ _ ((pathS p).s .leaf a) _ = T.node none _ _ (T.setP p .leaf (some a)) _; rw [ih]
    · show T.node none _ _ _ ((pathS p).s .leaf a) = T.node none _ _ _ (T.setP p .leaf (some a)); rw [ih]
  | d :: p, .node v c0 c1 c2 c3, a => by
    have ih := fun t => pathS_ok p t a
    cases d
    · show T.node v ((pathS p).s c0 a) _ _ _ = T.node v (T.setP p c0 (some a)) _ _ _; rw [ih]
    · show T.node v _ ((pathS p).s c1 a) _ _ = T.node v _ (T.setP p c1 (some a)) _ _; rw [ih]
    · show T.node v _ _ ((pathS p).s c2 a) _ = T.node v _ _ (T.setP p c2 (some a)) _; rw [ih]
    · show T.node v _ _ _ ((pathS p).s c3 a) = T.node v _ _ _ (T.setP p c3 (some a)); rw [ih]
def getG (n : Nat) : GB := pathG (path n)
def setS (n : Nat) : SB := pathS (path n)
theorem getG_ok (n : Nat) (t : T AV) : (getG n).g t = t.get n := pathG_ok _ _
theorem setS_ok (n : Nat) (t : T AV) (a : AV) : (setS n).s t a = t.set n (some a) := pathS_ok _ _ _
def constG (x : Option AV) : GB := ⟨fun _ => x⟩
def opG (G : Gl) (x : Operand) : GB := Operand.rec (motive := fun _ => GB) (fun t => getG t) (fun v => constG (ofConst 8 v)) (fun g => constG (evalO G .leaf (.global g))) (fun k => constG (some (.fn (.func k) [] []))) x
theorem opG_ok (G : Gl) (x : Operand) (f : T AV) : (opG G x).g f = evalO G f x := by
  cases x with
  | tmp t => exact getG_ok t f
  | _ => rfl

/-- A value, by what it is looked at for. -/
inductive SV where
  | b (x : Bool)
  | i (k : IntKind) (x : Int)
  | s (l : List UInt8)
  | no
inductive PV where
  | p (id off : Nat)
  | e (cs : List AV)
  | n
  | l (tok off sz : Nat) (es : List AV)
  | a (cs : List AV)
  | t (cs : List AV)
  | no
  | w (id off n sz : Nat)
def svV (x : Value) : SV := Value.rec (motive_1 := fun _ => SV) (motive_2 := fun _ => Unit) (motive_3 := fun _ => Unit) SV.b SV.i (fun _ _ => .no) (fun _ _ _ => .no) (fun s => .s s.data.toList) (fun _ => .no) (fun _ _ _ => .no) (fun _ => .no) (fun _ => .no) (fun _ _ _ _ _ => .no) .no (fun _ _ _ => .no) .no (fun _ _ => .no) (fun _ _ => .no) (fun _ _ => ()) () (fun _ _ _ _ => ()) x
def AV.sv (a : AV) : SV := AV.rec (motive_1 := fun _ => SV) (motive_2 := fun _ => Unit) svV .no (fun _ _ => .no) (fun _ _ => .no) .no (fun _ _ _ _ _ => .no) .no (fun _ => .no) (fun _ _ _ _ _ => .no) (fun _ _ _ => .no) (fun _ _ => .no) (fun _ _ => .no) (fun _ _ _ _ => .no) () (fun _ _ _ _ => ()) a
def AV.pv (a : AV) : PV := AV.rec (motive_1 := fun _ => PV) (motive_2 := fun _ => Unit) (fun _ => .no) .no PV.p (fun cs _ => .e cs) .n (fun tok off sz es _ => .l tok off sz es) .no (fun _ => .no) (fun _ _ _ _ _ => .no) (fun _ _ _ => .no) (fun cs _ => .a cs) (fun cs _ => .t cs) PV.w () (fun _ _ _ _ => ()) a
theorem sv_b {a : AV} {x : Bool} (h : a.sv = .b x) : a = .v (.bool x) := by
  cases a with
  | v y => cases y <;> cases h; rfl
  | _ => cases h
theorem sv_i {a : AV} {k : IntKind} {x : Int} (h : a.sv = .i k x) : a = .v (.int k x) := by
  cases a with
  | v y => cases y <;> cases h; rfl
  | _ => cases h
theorem sv_s {a : AV} {l : List UInt8} (h : a.sv = .s l) : ∃ s : ByteArray, a = .v (.string s) ∧ s.data.toList = l := by
  cases a with
  | v y => cases y <;> cases h; exact ⟨_, rfl, rfl⟩
  | _ => cases h
theorem pv_p {a : AV} {id off : Nat} (h : a.pv = .p id off) : a = .ptr id off := by cases a <;> cases h; rfl
theorem pv_e {a : AV} {cs : List AV} (h : a.pv = .e cs) : a = .ep cs := by cases a <;> cases h; rfl
theorem pv_n {a : AV} (h : a.pv = .n) : a = .nils := by cases a <;> cases h; rfl
theorem pv_l {a : AV} {tok off sz : Nat} {es : List AV} (h : a.pv = .l tok off sz es) : a = .sl tok off sz es := by cases a <;> cases h; rfl
theorem pv_a {a : AV} {cs : List AV} (h : a.pv = .a cs) : a = .agg cs := by cases a <;> cases h; rfl
theorem pv_w {a : AV} {id off n sz : Nat} (h : a.pv = .w id off n sz) : a = .bs id off n sz := by cases a <;> cases h; rfl
theorem pv_t {a : AV} {cs : List AV} (h : a.pv = .t cs) : a = .tup cs := by cases a <;> cases h; rfl

/-- Rows. -/
def lenR {α : Type} (l : List α) : Nat := List.rec (motive := fun _ => Nat) 0 (fun _ _ n => Nat.succ n) l
theorem lenR_eq {α : Type} : ∀ l : List α, lenR l = l.length
  | [] => rfl
  | _ :: r => congrArg Nat.succ (lenR_eq r)
def atR {α : Type} (n : Nat) : List α → Option α := Nat.rec (motive := fun _ => List α → Option α) (fun l => List.rec (motive := fun _ => Option α) none (fun c _ _ => some c) l) (fun _ ih l => List.rec (motive := fun _ => Option α) none (fun _ r _ => ih r) l) n
theorem atR_eq {α : Type} : ∀ (n : Nat) (l : List α), atR n l = l[n]?
  | 0, [] => rfl
  | 0, _ :: _ => rfl
  | n + 1, [] => rfl
  | n + 1, _ :: r => (atR_eq n r).trans (by simp)
def dropR {α : Type} (n : Nat) : List α → Option (List α) := Nat.rec (motive := fun _ => List α → Option (List α)) (fun l => some l) (fun _ ih l => List.rec (motive := fun _ => Option (List α)) none (fun _ r _ => ih r) l) n
theorem dropR_some {α : Type} : ∀ (n : Nat) (l r : List α), dropR n l = some r → n ≤ l.length ∧ r = l.drop n
  | 0, l, r, h => by injection h with h; subst h; exact ⟨Nat.zero_le _, rfl⟩
  | n + 1, [], r, h => by cases h
  | n + 1, _ :: l, r, h => by
    obtain ⟨h1, h2⟩ := dropR_some n l r h
    exact ⟨by simpa using h1, h2⟩
def consO {α : Type} (c : α) (o : Option (List α)) : Option (List α) := Option.rec (motive := fun _ => Option (List α)) none (fun r => some (c :: r)) o
def takeR {α : Type} (n : Nat) : List α → Option (List α) := Nat.rec (motive := fun _ => List α → Option (List α)) (fun l => some []) (fun _ ih l => List.rec (motive := fun _ => Option (List α)) none (fun c r _ => consO c (ih r)) l) n
theorem takeR_some {α : Type} : ∀ (n : Nat) (l r : List α), takeR n l = some r → n ≤ l.length ∧ r = l.take n
  | 0, l, r, h => by injection h with h; subst h; exact ⟨Nat.zero_le _, rfl⟩
  | n + 1, [], r, h => by cases h
  | n + 1, c :: l, r, h => by
    have h : consO c (takeR n l) = some r := h
    cases hq : takeR n l with
    | none => rw [hq] at h; cases h
    | some q =>
      rw [hq] at h
      have h : some (c :: q) = some r := h
      injection h with h; subst h
      obtain ⟨h1, h2⟩ := takeR_some n l q hq
      exact ⟨by simpa using h1, by rw [h2]; rfl⟩
/-- Cells put in place of others. -/
def overR {α : Type} (ys : List α) : List α → Option (List α) := List.rec (motive := fun _ => List α → Option (List α)) (fun l => some l) (fun y _ ih l => List.rec (motive := fun _ => Option (List α)) none (fun _ r _ => consO y (ih r)) l) ys
theorem overR_some {α : Type} : ∀ (ys l r : List α), overR ys l = some r → ys.length ≤ l.length ∧ r = ys ++ l.drop ys.length
  | [], l, r, h => by injection h with h; subst h; exact ⟨Nat.zero_le _, rfl⟩
  | y :: ys, [], r, h => by cases h
  | y :: ys, c :: l, r, h => by
    have h : consO y (overR ys l) = some r := h
    cases hq : overR ys l with
    | none => rw [hq] at h; cases h
    | some q =>
      rw [hq] at h
      have h : some (y :: q) = some r := h
      injection h with h; subst h
      obtain ⟨h1, h2⟩ := overR_some ys l q hq
      exact ⟨by simpa using h1, by rw [h2]; rfl⟩
def overAtR {α : Type} (n : Nat) (ys : List α) : List α → Option (List α) := Nat.rec (motive := fun _ => List α → Option (List α)) (fun l => overR ys l) (fun _ ih l => List.rec (motive := fun _ => Option (List α)) none (fun c r _ => consO c (ih r)) l) n
theorem overAtR_some {α : Type} (ys : List α) : ∀ (n : Nat) (l r : List α), overAtR n ys l = some r → n + ys.length ≤ l.length ∧ r = l.take n ++ ys ++ l.drop (n + ys.length)
  | 0, l, r, h => by
    obtain ⟨h1, h2⟩ := overR_some ys l r h
    exact ⟨by omega, by rw [h2]; simp⟩
  | n + 1, [], r, h => by cases h
  | n + 1, c :: l, r, h => by
    have h : consO c (overAtR n ys l) = some r := h
    cases hq : overAtR n ys l with
    | none => rw [hq] at h; cases h
    | some q =>
      rw [hq] at h
      have h : some (c :: q) = some r := h
      injection h with h; subst h
      obtain ⟨h1, h2⟩ := overAtR_some ys n l q hq
      refine ⟨by simp; omega, ?_⟩
      rw [h2, show n + 1 + ys.length = (n + ys.length) + 1 by omega]
      simp
/-- Numbers. -/
def ltI1 (a : Nat) (y : Int) : Bool := Int.rec (motive := fun _ => Bool) (fun b => Nat.ble (Nat.succ a) b) (fun _ => false) y
def ltI2 (a : Nat) (y : Int) : Bool := Int.rec (motive := fun _ => Bool) (fun _ => true) (fun b => Nat.ble (Nat.succ b) a) y
def ltI (x y : Int) : Bool := Int.rec (motive := fun _ => Int → Bool) ltI1 ltI2 x y
theorem ltI_eq (x y : Int) : ltI x y = decide (x < y) := by
  cases x <;> cases y
  · rename_i a b
    show Nat.ble (a + 1) b = _
    by_cases h : a < b
    · rw [Nat.ble_eq_true_of_le h]; symm; rw [decide_eq_true_iff]; show (a : Int) < b; omega
    · have : Nat.ble (a + 1) b = false := by
        cases hb : Nat.ble (a + 1) b with
        | false => rfl
        | true => exact absurd (Nat.le_of_ble_eq_true hb) h
      rw [this]; symm; rw [decide_eq_false_iff_not]; show ¬ (a : Int) < b; omega
  · rename_i a b; show false = _; symm; rw [decide_eq_false_iff_not]; simp only [Int.ofNat_eq_natCast]; omega
  · rename_i a b; show true = _; symm; rw [decide_eq_true_iff]; simp only [Int.ofNat_eq_natCast]; omega
  · rename_i a b
    show Nat.ble (b + 1) a = _
    by_cases h : b < a
    · rw [Nat.ble_eq_true_of_le h]; symm; rw [decide_eq_true_iff]; omega
    · have : Nat.ble (b + 1) a = false := by
        cases hb : Nat.ble (b + 1) a with
        | false => rfl
        | true => exact absurd (Nat.le_of_ble_eq_true hb) h
      rw [this]; symm; rw [decide_eq_false_iff_not]; omega
def eqI1 (a : Nat) (y : Int) : Bool := Int.rec (motive := fun _ => Bool) (fun b => Nat.beq a b) (fun _ => false) y
def eqI2 (a : Nat) (y : Int) : Bool := Int.rec (motive := fun _ => Bool) (fun _ => false) (fun b => Nat.beq a b) y
def eqI (x y : Int) : Bool := Int.rec (motive := fun _ => Int → Bool) eqI1 eqI2 x y
theorem beq_dec (a b : Nat) : Nat.beq a b = decide (a = b) := by
  cases h : Nat.beq a b with
  | true => rw [Nat.eq_of_beq_eq_true h]; simp
  | false => symm; rw [decide_eq_false_iff_not]; exact Nat.ne_of_beq_eq_false h
theorem eqI_eq (x y : Int) : eqI x y = (x == y) := by
  rw [show (x == y) = decide (x = y) from rfl]
  cases x <;> cases y
  · rename_i a b; show Nat.beq a b = _; rw [beq_dec]; congr 1; simp; omega
  · rename_i a b; show false = _; symm; rw [decide_eq_false_iff_not]; exact fun e => by cases e
  · rename_i a b; show false = _; symm; rw [decide_eq_false_iff_not]; exact fun e => by cases e
  · rename_i a b; show Nat.beq a b = _; rw [beq_dec]; congr 1; simp
def notR (b : Bool) : Bool := Bool.rec (motive := fun _ => Bool) true false b
theorem notR_eq (b : Bool) : notR b = !b := by cases b <;> rfl
def kI8 (k : IntKind) : Bool := IntKind.rec (motive := fun _ => Bool) true false false false false false false false k
def kI16 (k : IntKind) : Bool := IntKind.rec (motive := fun _ => Bool) false true false false false false false false k
def kI32 (k : IntKind) : Bool := IntKind.rec (motive := fun _ => Bool) false false true false false false false false k
def kI64 (k : IntKind) : Bool := IntKind.rec (motive := fun _ => Bool) false false false true false false false false k
def kU8 (k : IntKind) : Bool := IntKind.rec (motive := fun _ => Bool) false false false false true false false false k
def kU16 (k : IntKind) : Bool := IntKind.rec (motive := fun _ => Bool) false false false false false true false false k
def kU32 (k : IntKind) : Bool := IntKind.rec (motive := fun _ => Bool) false false false false false false true false k
def kU64 (k : IntKind) : Bool := IntKind.rec (motive := fun _ => Bool) false false false false false false false true k
def eqK (k k' : IntKind) : Bool := IntKind.rec (motive := fun _ => IntKind → Bool) kI8 kI16 kI32 kI64 kU8 kU16 kU32 kU64 k k'
theorem eqK_eq {k k' : IntKind} (h : eqK k k' = true) : k = k' := by cases k <;> cases k' <;> first | rfl | cases h
def subNR1 (a b : Nat) (d : Nat) : Int := Nat.rec (motive := fun _ => Int) (.ofNat (Nat.sub a b)) (fun e _ => .negSucc e) d
def subNR (a b : Nat) : Int := subNR1 a b (Nat.sub b a)
theorem subNR_eq (a b : Nat) : subNR a b = (a : Int) - b := by
  unfold subNR
  cases h : Nat.sub b a with
  | zero =>
    have h : b - a = 0 := h
    show Int.ofNat (a - b) = _
    rw [Int.ofNat_eq_natCast]; omega
  | succ e =>
    have h : b - a = e + 1 := h
    show Int.negSucc e = _
    omega
def addI1 (a : Nat) (y : Int) : Int := Int.rec (motive := fun _ => Int) (fun b => .ofNat (Nat.add a b)) (fun b => subNR a (Nat.succ b)) y
def addI2 (a : Nat) (y : Int) : Int := Int.rec (motive := fun _ => Int) (fun b => subNR b (Nat.succ a)) (fun b => .negSucc (Nat.succ (Nat.add a b))) y
def addI (x y : Int) : Int := Int.rec (motive := fun _ => Int → Int) addI1 addI2 x y
theorem addI_eq (x y : Int) : addI x y = x + y := by
  cases x <;> cases y
  · rfl
  · rename_i a b; show subNR a (b + 1) = _; rw [subNR_eq]; simp only [Int.ofNat_eq_natCast]; omega
  · rename_i a b; show subNR b (a + 1) = _; rw [subNR_eq]; simp only [Int.ofNat_eq_natCast]; omega
  · rfl
def subI1 (a : Nat) (y : Int) : Int := Int.rec (motive := fun _ => Int) (fun b => subNR a b) (fun b => .ofNat (Nat.succ (Nat.add a b))) y
def subI2 (a : Nat) (y : Int) : Int := Int.rec (motive := fun _ => Int) (fun b => .negSucc (Nat.add a b)) (fun b => subNR b a) y
def subI (x y : Int) : Int := Int.rec (motive := fun _ => Int → Int) subI1 subI2 x y
theorem subI_eq (x y : Int) : subI x y = x - y := by
  cases x <;> cases y
  · rename_i a b; exact subNR_eq a b
  · rename_i a b; show ((a + b + 1 : Nat) : Int) = _; simp only [Int.ofNat_eq_natCast]; omega
  · rename_i a b; show Int.negSucc (a + b) = _; simp only [Int.ofNat_eq_natCast]; omega
  · rename_i a b; show subNR b a = _; rw [subNR_eq]; omega
def in64 (x : Int) : Bool := Int.rec (motive := fun _ => Bool) (fun n => Nat.ble n 9223372036854775807) (fun n => Nat.ble n 9223372036854775807) x
def wrap64R (x : Int) : Int := Bool.rec (motive := fun _ => Int) (IntKind.i64.wrap x) x (in64 x)
theorem wrap64R_eq (x : Int) : wrap64R x = IntKind.i64.wrap x := by
  unfold wrap64R
  cases h : in64 x with
  | false => rfl
  | true =>
    show x = _
    have hb : -9223372036854775808 ≤ x ∧ x ≤ 9223372036854775807 := by
      cases x with
      | ofNat n => have := Nat.le_of_ble_eq_true h; simp only [Int.ofNat_eq_natCast]; omega
      | negSucc n => have := Nat.le_of_ble_eq_true h; omega
    show x = (if (true && decide (x % (2 ^ 64 : Int) ≥ (2 ^ (64 - 1) : Int))) = true then x % (2 ^ 64 : Int) - (2 ^ 64 : Int) else x % (2 ^ 64 : Int))
    simp only [Bool.true_and, decide_eq_true_iff]
    have e1 : (2 ^ 64 : Int) = 18446744073709551616 := by decide
    have e2 : (2 ^ (64 - 1) : Int) = 9223372036854775808 := by decide
    rw [e1, e2]
    split <;> omega
def wrapR (k : IntKind) (x : Int) : Int := Bool.rec (motive := fun _ => Int) (k.wrap x) (wrap64R x) (kI64 k)
theorem wrapR_eq (k : IntKind) (x : Int) : wrapR k x = k.wrap x := by
  cases k <;> first | rfl | exact wrap64R_eq x
end Go.Ax
noncomputable section
namespace Go.Ax
open Go.RowKit
set_option linter.unusedVariables false
set_option linter.unusedSimpArgs false

def bnd (h : AV → Option AV) (o : Option AV) : Option AV := Option.rec (motive := fun _ => Option AV) none h o
theorem bnd_some {h : AV → Option AV} {o : Option AV} {r : AV} (e : bnd h o = some r) : ∃ a, o = some a ∧ h a = some r := by
  cases o with
  | none => cases e
  | some a => exact ⟨a, rfl, e⟩
def bndL (h : List AV → Option AV) (o : Option (List AV)) : Option AV := Option.rec (motive := fun _ => Option AV) none h o
theorem bndL_some {h : List AV → Option AV} {o : Option (List AV)} {r : AV} (e : bndL h o = some r) : ∃ a, o = some a ∧ h a = some r := by
  cases o with
  | none => cases e
  | some a => exact ⟨a, rfl, e⟩
def VOk (E : Env) (o : Oper) (b : VB) : Prop := ∀ f S a, b.v f S = some a → exec1 E f S o = .val a S
def failV : VB := ⟨fun _ _ => none⟩
theorem failV_ok {E : Env} {o : Oper} : VOk E o failV := fun f S a h => by cases h
def slowV (E : Env) (o : Oper) : VB := ⟨fun f S => OR.rec (motive := fun _ => Option AV) (fun a _ => some a) (fun _ => none) (fun _ _ _ => none) (fun _ _ _ _ => none) (fun _ _ => none) none (exec1R E f S o)⟩
theorem slowV_ok {E : Env} {o : Oper} (hl : isLook o = true) : VOk E o (slowV E o) := fun f S a h => by
  have h : OR.rec (motive := fun _ => Option AV) (fun a _ => some a) (fun _ => none) (fun _ _ _ => none) (fun _ _ _ _ => none) (fun _ _ => none) none (exec1R E f S o) = some a := h
  rw [exec1R_eq] at h
  rcases look_same (E := E) (f := f) (S := S) hl with ⟨b, hb⟩ | hb
  · rw [hb] at h
    have h : some b = some a := h
    injection h with h; subst h; exact hb
  · rw [hb] at h; cases h
def moveV (g : GB) : VB := ⟨fun f _ => g.g f⟩
/-- Loads. -/
def aggO (o : Option (List AV)) : Option AV := bndL (fun l => some (.agg l)) o
def cell1 (c : Cell) (off : Nat) : Option AV := Cell.rec (motive := fun _ => Nat → Option AV) (fun cs off => atR off cs) (fun _ _ => none) (fun _ _ => none) c off
def cellO1 (c : Option Cell) (off : Nat) : Option AV := Option.rec (motive := fun _ => Nat → Option AV) (fun _ => none) cell1 c off
def ld1 (S : St) (a : AV) : Option AV := PV.rec (motive := fun _ => St → Option AV) (fun id off S => cellO1 (S.mem.get id) off) (fun cs _ => atR 0 cs) (fun _ => none) (fun _ _ _ _ _ => none) (fun _ _ => none) (fun _ _ => none) (fun _ => none) (fun _ _ _ _ _ => none) a.pv S
theorem ld1_ok {P : Program} {t : TypeId} {S : St} {a x : AV} (ht : isAggT P t = some false) (h : ld1 S a = some x) : oLoad P S t a = some x := by
  unfold ld1 at h
  cases hp : a.pv with
  | p id off =>
    rw [hp] at h
    rw [pv_p hp]
    have h : cellO1 (S.mem.get id) off = some x := h
    cases hm : S.mem.get id with
    | none => rw [hm] at h; cases h
    | some c =>
      rw [hm] at h
      cases c with
      | box cs =>
        have h : atR off cs = some x := h
        rw [atR_eq] at h
        have hlt := (List.getElem?_eq_some_iff.1 h).1
        simp only [oLoad, behind, hm, if_pos (Nat.le_of_lt hlt), ht]
        rw [List.head?_drop]; exact h
      | tip m => cases h
      | mp es => cases h
  | e cs =>
    rw [hp] at h
    rw [pv_e hp]
    have h : atR 0 cs = some x := h
    rw [atR_eq] at h
    simp only [oLoad, behind, ht]
    rw [List.head?_eq_getElem?]; exact h
  | n => rw [hp] at h; cases h
  | l => rw [hp] at h; cases h
  | a => rw [hp] at h; cases h
  | t => rw [hp] at h; cases h
  | no => rw [hp] at h; cases h
  | w => rw [hp] at h; cases h
def cutR (off n : Nat) (cs : List AV) : Option AV := bndL (fun r => aggO (takeR n r)) (dropR off cs)
theorem cutR_some {off n : Nat} {cs : List AV} {x : AV} (h : cutR off n cs = some x) : off + n ≤ cs.length ∧ x = .agg ((cs.drop off).take n) := by
  obtain ⟨r, h1, h2⟩ := bndL_some h
  obtain ⟨q, h3, h4⟩ := bndL_some h2
  obtain ⟨k1, rfl⟩ := dropR_some _ _ _ h1
  obtain ⟨k2, rfl⟩ := takeR_some _ _ _ h3
  injection h4 with h4
  exact ⟨by simp at k2; omega, h4.symm⟩
def cellN (n : Nat) (c : Cell) (off : Nat) : Option AV := Cell.rec (motive := fun _ => Nat → Nat → Option AV) (fun cs n off => cutR off n cs) (fun _ _ _ => none) (fun _ _ _ => none) c n off
def cellON (n : Nat) (c : Option Cell) (off : Nat) : Option AV := Option.rec (motive := fun _ => Nat → Nat → Option AV) (fun _ _ => none) (fun c n off => cellN n c off) c n off
def ldN (n : Nat) (S : St) (a : AV) : Option AV := PV.rec (motive := fun _ => Nat → St → Option AV) (fun id off n S => cellON n (S.mem.get id) off) (fun cs n _ => cutR 0 n cs) (fun _ _ => none) (fun _ _ _ _ _ _ => none) (fun _ _ _ => none) (fun _ _ _ => none) (fun _ _ => none) (fun _ _ _ _ _ _ => none) a.pv n S
theorem ldN_ok {P : Program} {t : TypeId} {n : Nat} {S : St} {a x : AV} (ht : isAggT P t = some true) (hs : sizeT P t = some n) (h : ldN n S a = some x) : oLoad P S t a = some x := by
  unfold ldN at h
  cases hp : a.pv with
  | p id off =>
    rw [hp] at h
    rw [pv_p hp]
    have h : cellON n (S.mem.get id) off = some x := h
    cases hm : S.mem.get id with
    | none => rw [hm] at h; cases h
    | some c =>
      rw [hm] at h
      cases c with
      | box cs =>
        have h : cutR off n cs = some x := h
        obtain ⟨h1, rfl⟩ := cutR_some h
        simp only [oLoad, behind, hm, if_pos (show off ≤ cs.length by omega), ht, hs, List.length_drop]
        rw [if_pos (by omega)]
      | tip m => cases h
      | mp es => cases h
  | e cs =>
    rw [hp] at h
    rw [pv_e hp]
    have h : cutR 0 n cs = some x := h
    obtain ⟨h1, rfl⟩ := cutR_some h
    simp only [oLoad, behind, ht, hs]
    rw [if_pos (by omega)]; rfl
  | n => rw [hp] at h; cases h
  | l => rw [hp] at h; cases h
  | a => rw [hp] at h; cases h
  | t => rw [hp] at h; cases h
  | no => rw [hp] at h; cases h
  | w => rw [hp] at h; cases h
def load1V (g : GB) : VB := ⟨fun f S => bnd (ld1 S) (g.g f)⟩
def loadNV (n : Nat) (g : GB) : VB := ⟨fun f S => bnd (ldN n S) (g.g f)⟩
def loadV (P : Program) (t : TypeId) (g : GB) : VB := match isAggT P t with
  | some false => load1V g
  | some true => match sizeT P t with
    | some n => loadNV n g
    | none => failV
  | none => failV
theorem loadV_ok {E : Env} {o : Oper} {t : TypeId} {x : Operand} (ho : o.op = .load t x) : VOk E o (loadV E.P t (opG E.G x)) := fun f S a h => by
  unfold loadV at h
  simp only [exec1, ho]
  split at h
  · rename_i ht
    obtain ⟨b, h1, h2⟩ := bnd_some h
    rw [opG_ok] at h1
    rw [h1]; simp only
    rw [ld1_ok ht h2]; rfl
  · rename_i ht
    split at h
    · rename_i n hs
      obtain ⟨b, h1, h2⟩ := bnd_some h
      rw [opG_ok] at h1
      rw [h1]; simp only
      rw [ldN_ok ht hs h2]; rfl
    · cases h
  · cases h
/-- Parts of a struct. -/
def fld1 (off : Nat) (a : AV) : Option AV := PV.rec (motive := fun _ => Nat → Option AV) (fun _ _ _ => none) (fun _ _ => none) (fun _ => none) (fun _ _ _ _ _ => none) (fun cs off => atR off cs) (fun _ _ => none) (fun _ => none) (fun _ _ _ _ _ => none) a.pv off
def fldN (off n : Nat) (a : AV) : Option AV := PV.rec (motive := fun _ => Nat → Nat → Option AV) (fun _ _ _ _ => none) (fun _ _ _ => none) (fun _ _ => none) (fun _ _ _ _ _ _ => none) (fun cs off n => cutR off n cs) (fun _ _ _ => none) (fun _ _ => none) (fun _ _ _ _ _ _ => none) a.pv off n
theorem fld1_some {off : Nat} {a x : AV} (h : fld1 off a = some x) : ∃ cs, a = .agg cs ∧ cs[off]? = some x := by
  unfold fld1 at h
  cases hp : a.pv with
  | a cs => rw [hp] at h; exact ⟨cs, pv_a hp, (atR_eq off cs).symm.trans h⟩
  | p => rw [hp] at h; cases h
  | e => rw [hp] at h; cases h
  | n => rw [hp] at h; cases h
  | l => rw [hp] at h; cases h
  | t => rw [hp] at h; cases h
  | no => rw [hp] at h; cases h
  | w => rw [hp] at h; cases h
theorem fldN_some {off n : Nat} {a x : AV} (h : fldN off n a = some x) : ∃ cs, a = .agg cs ∧ off + n ≤ cs.length ∧ x = .agg ((cs.drop off).take n) := by
  unfold fldN at h
  cases hp : a.pv with
  | a cs => rw [hp] at h; exact ⟨cs, pv_a hp, cutR_some h⟩
  | p => rw [hp] at h; cases h
  | e => rw [hp] at h; cases h
  | n => rw [hp] at h; cases h
  | l => rw [hp] at h; cases h
  | t => rw [hp] at h; cases h
  | no => rw [hp] at h; cases h
  | w => rw [hp] at h; cases h
def field1V (off : Nat) (g : GB) : VB := ⟨fun f _ => bnd (fld1 off) (g.g f)⟩
def fieldNV (off n : Nat) (g : GB) : VB := ⟨fun f _ => bnd (fldN off n) (g.g f)⟩
def fieldV (P : Program) (t : TypeId) (i : Nat) (g : GB) : VB := match fieldsOf P t with
  | some fs => match fs[i]? with
    | some fd => match isAggT P fd.type with
      | some true => match sizeT P fd.type with
        | some n => fieldNV fd.offset n g
        | none => failV
      | some false => field1V fd.offset g
      | none => failV
    | none => failV
  | none => failV
theorem fieldV_ok {E : Env} {o : Oper} {t : TypeId} {i : Nat} {x : Operand} (ho : o.op = .field t x i) : VOk E o (fieldV E.P t i (opG E.G x)) := fun f S a h => by
  unfold fieldV at h
  simp only [exec1, ho]
  split at h
  · rename_i fs hfs
    split at h
    · rename_i fd hfd
      split at h
      · rename_i ht
        split at h
        · rename_i n hs
          obtain ⟨b, h1, h2⟩ := bnd_some h
          rw [opG_ok] at h1
          obtain ⟨cs, rfl, h3, rfl⟩ := fldN_some h2
          rw [h1]
          simp only [oField, hfs, hfd, oPart, ht, hs, if_pos h3, ofOpt]
        · cases h
      · rename_i ht
        obtain ⟨b, h1, h2⟩ := bnd_some h
        rw [opG_ok] at h1
        obtain ⟨cs, rfl, h3⟩ := fld1_some h2
        rw [h1]
        simp only [oField, hfs, hfd, oPart, ht, h3, ofOpt]
      · cases h
    · cases h
  · cases h
def shiftR (n : Nat) (a : AV) : Option AV := PV.rec (motive := fun _ => Nat → Option AV) (fun id off n => some (.ptr id (Nat.add off n))) (fun cs n => bndL (fun r => some (.ep r)) (dropR n cs)) (fun _ => none) (fun _ _ _ _ _ => none) (fun _ _ => none) (fun _ _ => none) (fun _ => none) (fun _ _ _ _ _ => none) a.pv n
theorem shiftR_some {n : Nat} {a x : AV} (h : shiftR n a = some x) : shift a n = some x := by
  unfold shiftR at h
  cases hp : a.pv with
  | p id off => rw [hp] at h; rw [pv_p hp]; exact h
  | e cs =>
    rw [hp] at h; rw [pv_e hp]
    obtain ⟨r, h1, h2⟩ := bndL_some h
    obtain ⟨k1, rfl⟩ := dropR_some _ _ _ h1
    simp only [shift, if_pos k1]; exact h2
  | a => rw [hp] at h; cases h
  | n => rw [hp] at h; cases h
  | l => rw [hp] at h; cases h
  | t => rw [hp] at h; cases h
  | no => rw [hp] at h; cases h
  | w => rw [hp] at h; cases h
def shiftV (off : Nat) (g : GB) : VB := ⟨fun f _ => bnd (shiftR off) (g.g f)⟩
def faddrV (P : Program) (s : TypeId) (i : Nat) (g : GB) : VB := match fieldsOf P s with
  | some fs => match fs[i]? with
    | some fd => match sizeT P fd.type with
      | some (_ + 1) => shiftV fd.offset g
      | _ => failV
    | none => failV
  | none => failV
theorem faddrV_ok {E : Env} {o : Oper} {t : TypeId} {i : Nat} {x : Operand} (ho : o.op = .fieldAddr t x i) : VOk E o (faddrV E.P t i (opG E.G x)) := fun f S a h => by
  unfold faddrV at h
  simp only [exec1, ho]
  split at h
  · rename_i fs hfs
    split at h
    · rename_i fd hfd
      split at h
      · rename_i n hs
        obtain ⟨b, h1, h2⟩ := bnd_some h
        rw [opG_ok] at h1
        rw [h1]
        simp only [oFieldAddr, hfs, hfd, hs, shiftR_some h2, ofOpt]
      · cases h
    · cases h
  · cases h
def okFn (fn : Fn) : Bool := match fn with
  | .func _ => true
  | _ => false
def okN (a : AV) : Bool := AV.rec (motive_1 := fun _ => Bool) (motive_2 := fun _ => Unit) (fun _ => false) false (fun _ _ => true) (fun _ _ => true) false (fun _ _ _ _ _ => false) false (fun _ => false) (fun fn _ _ _ _ => okFn fn) (fun _ _ _ => true) (fun _ _ => false) (fun _ _ => false) (fun _ _ _ _ => false) () (fun _ _ _ _ => ()) a
def nilX (a : AV) : Option AV := Bool.rec (motive := fun _ => Option AV) none (some a) (okN a)
def nilV (g : GB) : VB := ⟨fun f _ => bnd nilX (g.g f)⟩
theorem nilV_ok {E : Env} {o : Oper} {x : Operand} (ho : o.op = .nilCheck x) : VOk E o (nilV (opG E.G x)) := fun f S a h => by
  obtain ⟨b, h1, h2⟩ := bnd_some h
  rw [opG_ok] at h1
  simp only [exec1, ho, h1]
  cases b with
  | fn fn x y => cases fn with
    | func k => injection h2 with h2; subst h2; rfl
    | _ => cases h2
  | ptr => injection h2 with h2; subst h2; rfl
  | ep => injection h2 with h2; subst h2; rfl
  | iface => injection h2 with h2; subst h2; rfl
  | _ => cases h2
/-- Elements of a row. -/
def aggCells (a : AV) : Option (List AV) := PV.rec (motive := fun _ => Option (List AV)) (fun _ _ => none) (fun _ => none) none (fun _ _ _ _ => none) (fun cs => some cs) (fun _ => none) none (fun _ _ _ _ => none) a.pv
def cellsR (a : AV) : List AV := Option.rec (motive := fun _ => List AV) [a] (fun cs => cs) (aggCells a)
theorem cellsR_eq (a : AV) : cellsR a = a.cells := by cases a <;> rfl
def epO (o : Option AV) : Option AV := bnd (fun x => some (.ep (cellsR x))) o
def rowAt (n : Nat) (a : AV) (j : Nat) : Option AV := PV.rec (motive := fun _ => Nat → Nat → Option AV) (fun _ _ _ _ => none) (fun _ _ _ => none) (fun _ _ => none) (fun _ _ sz es n j => Bool.rec (motive := fun _ => Option AV) none (epO (atR j es)) (Nat.beq n sz)) (fun _ _ _ => none) (fun _ _ _ => none) (fun _ _ => none) (fun id off len sz n j => Bool.rec (motive := fun _ => Option AV) none (Bool.rec (motive := fun _ => Option AV) none (some (.ptr id (Nat.add off (Nat.mul j sz)))) (Nat.ble (Nat.succ j) len)) (Nat.beq n sz)) a.pv n j
theorem rowAt_some {n j : Nat} {a x : AV} (h : rowAt n a j = some x) : (∃ tok off es y, a = .sl tok off n es ∧ es[j]? = some y ∧ x = .ep y.cells) ∨ (∃ id off len, a = .bs id off len n ∧ j < len ∧ x = .ptr id (off + j * n)) := by
  unfold rowAt at h
  cases hp : a.pv with
  | l tok off sz es =>
    rw [hp] at h
    have h : Bool.rec (motive := fun _ => Option AV) none (epO (atR j es)) (Nat.beq n sz) = some x := h
    cases hb : Nat.beq n sz with
    | false => rw [hb] at h; cases h
    | true =>
      rw [hb] at h
      obtain ⟨y, h1, h2⟩ := bnd_some h
      rw [atR_eq] at h1
      have := Nat.eq_of_beq_eq_true hb
      subst this
      injection h2 with h2
      rw [cellsR_eq] at h2
      exact .inl ⟨tok, off, es, y, pv_l hp, h1, h2.symm⟩
  | w id off len sz =>
    rw [hp] at h
    have h : Bool.rec (motive := fun _ => Option AV) none (Bool.rec (motive := fun _ => Option AV) none (some (.ptr id (Nat.add off (Nat.mul j sz)))) (Nat.ble (Nat.succ j) len)) (Nat.beq n sz) = some x := h
    cases hb : Nat.beq n sz with
    | false => rw [hb] at h; cases h
    | true =>
      have := Nat.eq_of_beq_eq_true hb
      subst this
      rw [hb] at h
      cases hc : Nat.ble (Nat.succ j) len with
      | false => rw [hc] at h; cases h
      | true =>
        rw [hc] at h
        injection h with h
        exact .inr ⟨id, off, len, pv_w hp, Nat.le_of_ble_eq_true hc, h.symm⟩
  | p => rw [hp] at h; cases h
  | e => rw [hp] at h; cases h
  | n => rw [hp] at h; cases h
  | a => rw [hp] at h; cases h
  | t => rw [hp] at h; cases h
  | no => rw [hp] at h; cases h
def natOf (s : SV) : Option Nat := SV.rec (motive := fun _ => Option Nat) (fun _ => none) (fun _ x => Int.rec (motive := fun _ => Option Nat) (fun n => some n) (fun _ => none) x) (fun _ => none) none s
theorem natOf_some {a : AV} {j : Nat} (h : natOf a.sv = some j) : ∃ k, a = .v (.int k (j : Int)) := by
  cases hs : a.sv with
  | i k x =>
    rw [hs] at h
    cases x with
    | ofNat n => injection h with h; subst h; exact ⟨k, sv_i hs⟩
    | negSucc n => cases h
  | b => rw [hs] at h; cases h
  | s => rw [hs] at h; cases h
  | no => rw [hs] at h; cases h
def bndN (h : Nat → Option AV) (o : Option Nat) : Option AV := Option.rec (motive := fun _ => Option AV) none h o
theorem bndN_some {h : Nat → Option AV} {o : Option Nat} {r : AV} (e : bndN h o = some r) : ∃ a, o = some a ∧ h a = some r := by
  cases o with
  | none => cases e
  | some a => exact ⟨a, rfl, e⟩
def iaddrS (n : Nat) (gx gi : GB) : VB := ⟨fun f _ => bnd (fun a => bnd (fun b => bndN (rowAt n a) (natOf b.sv)) (gi.g f)) (gx.g f)⟩
def arrAt (len n : Nat) (a : AV) (j : Nat) : Option AV := Bool.rec (motive := fun _ => Option AV) none (shiftR (Nat.mul j n) a) (Nat.ble (Nat.succ j) len)
def iaddrA (len n : Nat) (gx gi : GB) : VB := ⟨fun f _ => bnd (fun a => bnd (fun b => bndN (arrAt len n a) (natOf b.sv)) (gi.g f)) (gx.g f)⟩
def iaddrV (P : Program) (t : TypeId) (gx gi : GB) : VB := match elemT P t with
  | some (none, e) => match sizeT P e with
    | some n => iaddrS n gx gi
    | none => failV
  | some (some len, e) => match sizeT P e with
    | some n => iaddrA len n gx gi
    | none => failV
  | none => failV
theorem iaddrV_ok {E : Env} {o : Oper} {t : TypeId} {x i : Operand} (ho : o.op = .indexAddr t x i) : VOk E o (iaddrV E.P t (opG E.G x) (opG E.G i)) := fun f S a h => by
  unfold iaddrV at h
  simp only [exec1, ho]
  split at h
  · rename_i e he
    split at h
    · rename_i n hs
      obtain ⟨b, h1, h2⟩ := bnd_some h
      obtain ⟨c, h3, h4⟩ := bnd_some h2
      obtain ⟨j, h5, h6⟩ := bndN_some h4
      rw [opG_ok] at h1 h3
      obtain ⟨k, rfl⟩ := natOf_some h5
      rw [h1, h3]
      rcases rowAt_some h6 with ⟨tok, off, es, y, rfl, h7, rfl⟩ | ⟨id, off, len, rfl, h7, rfl⟩
      · simp only [oIndexAddr, he, hs, if_pos (show (0 : Int) ≤ (j : Int) by omega), Int.toNat_natCast, h7, beq_self_eq_true, if_true, ofOpt]
      · simp only [oIndexAddr, he, hs, if_pos (show (0 : Int) ≤ (j : Int) by omega), Int.toNat_natCast, beq_self_eq_true, Bool.true_and, decide_eq_true_eq, if_pos (show (j : Int) < (len : Int) by omega), ofOpt]
    · cases h
  · rename_i len e he
    split at h
    · rename_i n hs
      obtain ⟨b, h1, h2⟩ := bnd_some h
      obtain ⟨c, h3, h4⟩ := bnd_some h2
      obtain ⟨j, h5, h6⟩ := bndN_some h4
      rw [opG_ok] at h1 h3
      obtain ⟨k, rfl⟩ := natOf_some h5
      unfold arrAt at h6
      cases hb : Nat.ble (Nat.succ j) len with
      | false => rw [hb] at h6; cases h6
      | true =>
        rw [hb] at h6
        have h7 := shiftR_some h6
        have hlt : (j : Int) < (len : Int) := by have := Nat.le_of_ble_eq_true hb; omega
        rw [h1, h3]
        simp only [oIndexAddr, he, hs, if_pos (show (0 : Int) ≤ (j : Int) by omega), Int.toNat_natCast, if_pos hlt]
        have h8 : shift b (j * n) = some a := h7
        rw [h8]; rfl
    · cases h
  · cases h
def byteO (o : Option UInt8) : Option AV := Option.rec (motive := fun _ => Option AV) none (fun b => some (.v (.int .u8 (.ofNat b.toNat)))) o
def strAt (a : AV) (j : Nat) : Option AV := SV.rec (motive := fun _ => Nat → Option AV) (fun _ _ => none) (fun _ _ _ => none) (fun l j => byteO (atR j l)) (fun _ => none) a.sv j
def indexS (gx gi : GB) : VB := ⟨fun f _ => bnd (fun a => bnd (fun b => bndN (strAt a) (natOf b.sv)) (gi.g f)) (gx.g f)⟩
def indexV (E : Env) (o : Oper) (t : TypeId) (gx gi : GB) : VB := match E.P.underlying t with
  | some .string => indexS gx gi
  | _ => slowV E o
theorem indexV_ok {E : Env} {o : Oper} {t : TypeId} {x i : Operand} (ho : o.op = .index t x i) : VOk E o (indexV E o t (opG E.G x) (opG E.G i)) := by
  unfold indexV
  split
  · rename_i ht
    intro f S a h
    simp only [exec1, ho]
    obtain ⟨b, h1, h2⟩ := bnd_some h
    obtain ⟨c, h3, h4⟩ := bnd_some h2
    obtain ⟨j, h5, h6⟩ := bndN_some h4
    rw [opG_ok] at h1 h3
    obtain ⟨k, rfl⟩ := natOf_some h5
    unfold strAt at h6
    cases hs : b.sv with
    | s l =>
      rw [hs] at h6
      obtain ⟨s, rfl, rfl⟩ := sv_s hs
      have h6 : byteO (atR j s.data.toList) = some a := h6
      rw [atR_eq] at h6
      cases hq : s.data.toList[j]? with
      | none => rw [hq] at h6; cases h6
      | some u =>
        rw [hq] at h6
        injection h6 with h6; subst h6
        rw [h1, h3]
        simp only [fastIndex, ht, if_pos (show (0 : Int) ≤ (j : Int) by omega), Int.toNat_natCast, hq]
        rfl
    | b => rw [hs] at h6; cases h6
    | i => rw [hs] at h6; cases h6
    | no => rw [hs] at h6; cases h6
  · exact slowV_ok (by simp [isLook, ho])
/-- Two numbers, two texts. -/
def ib2 (h : IntKind → Int → Int → AV) (k : IntKind) (x : Int) (s : SV) : Option AV := SV.rec (motive := fun _ => Option AV) (fun _ => none) (fun k' y => Bool.rec (motive := fun _ => Option AV) none (some (h k x y)) (eqK k k')) (fun _ => none) none s
def ib (h : IntKind → Int → Int → AV) (a b : AV) : Option AV := SV.rec (motive := fun _ => SV → Option AV) (fun _ _ => none) (ib2 h) (fun _ _ => none) (fun _ => none) a.sv b.sv
theorem ib_some {h : IntKind → Int → Int → AV} {a b r : AV} (e : ib h a b = some r) : ∃ k x y, a = .v (.int k x) ∧ b = .v (.int k y) ∧ r = h k x y := by
  unfold ib at e
  cases ha : a.sv with
  | i k x =>
    rw [ha] at e
    have e : ib2 h k x b.sv = some r := e
    unfold ib2 at e
    cases hb : b.sv with
    | i k' y =>
      rw [hb] at e
      have e : Bool.rec (motive := fun _ => Option AV) none (some (h k x y)) (eqK k k') = some r := e
      cases hk : eqK k k' with
      | false => rw [hk] at e; cases e
      | true =>
        rw [hk] at e
        have e3 : some (h k x y) = some r := e
        injection e3 with e4
        have hkk := eqK_eq hk
        subst hkk
        exact ⟨k, x, y, sv_i ha, sv_i hb, e4.symm⟩
    | b => rw [hb] at e; cases e
    | s => rw [hb] at e; cases e
    | no => rw [hb] at e; cases e
  | b => rw [ha] at e; cases e
  | s => rw [ha] at e; cases e
  | no => rw [ha] at e; cases e
def sb2 (h : List UInt8 → List UInt8 → AV) (l : List UInt8) (s : SV) : Option AV := SV.rec (motive := fun _ => Option AV) (fun _ => none) (fun _ _ => none) (fun m => some (h l m)) none s
def isb (h : IntKind → Int → Int → AV) (h' : List UInt8 → List UInt8 → AV) (a b : AV) : Option AV := SV.rec (motive := fun _ => SV → Option AV) (fun _ _ => none) (ib2 h) (sb2 h') (fun _ => none) a.sv b.sv
theorem isb_some {h : IntKind → Int → Int → AV} {h' : List UInt8 → List UInt8 → AV} {a b r : AV} (e : isb h h' a b = some r) : (∃ k x y, a = .v (.int k x) ∧ b = .v (.int k y) ∧ r = h k x y) ∨ ∃ s u : ByteArray, a = .v (.string s) ∧ b = .v (.string u) ∧ r = h' s.data.toList u.data.toList := by
  unfold isb at e
  cases ha : a.sv with
  | i k x =>
    rw [ha] at e
    exact .inl (ib_some (h := h) (by unfold ib; rw [ha]; exact e))
  | s l =>
    rw [ha] at e
    have e : sb2 h' l b.sv = some r := e
    unfold sb2 at e
    cases hb : b.sv with
    | s m =>
      rw [hb] at e
      injection e with e
      obtain ⟨s, rfl, rfl⟩ := sv_s ha
      obtain ⟨u, rfl, rfl⟩ := sv_s hb
      exact .inr ⟨s, u, rfl, rfl, e.symm⟩
    | b => rw [hb] at e; cases e
    | i => rw [hb] at e; cases e
    | no => rw [hb] at e; cases e
  | b => rw [ha] at e; cases e
  | no => rw [ha] at e; cases e
def hAdd (k : IntKind) (x y : Int) : AV := .v (.int k (wrapR k (addI x y)))
def hSub (k : IntKind) (x y : Int) : AV := .v (.int k (wrapR k (subI x y)))
def hEql (_ : IntKind) (x y : Int) : AV := .v (.bool (eqI x y))
def hNeq (_ : IntKind) (x y : Int) : AV := .v (.bool (notR (eqI x y)))
def hLss (_ : IntKind) (x y : Int) : AV := .v (.bool (ltI x y))
def hGtr (_ : IntKind) (x y : Int) : AV := .v (.bool (ltI y x))
def hLeq (_ : IntKind) (x y : Int) : AV := .v (.bool (notR (ltI y x)))
def hGeq (_ : IntKind) (x y : Int) : AV := .v (.bool (notR (ltI x y)))
def hEqS (l m : List UInt8) : AV := .v (.bool (eqBytes l m))
def hNeS (l m : List UInt8) : AV := .v (.bool (notR (eqBytes l m)))
def bin2 (h : AV → AV → Option AV) (sl : VB) (gx gy : GB) : VB := ⟨fun f S => bnd (fun a => bnd (fun b => Option.rec (motive := fun _ => Option AV) (sl.v f S) (fun r => some r) (h a b)) (gy.g f)) (gx.g f)⟩
def binV (E : Env) (o : Oper) (op : BinOp) (gx gy : GB) : VB := match op with
  | .add => bin2 (ib hAdd) (slowV E o) gx gy
  | .sub => bin2 (ib hSub) (slowV E o) gx gy
  | .lss => bin2 (ib hLss) (slowV E o) gx gy
  | .gtr => bin2 (ib hGtr) (slowV E o) gx gy
  | .leq => bin2 (ib hLeq) (slowV E o) gx gy
  | .geq => bin2 (ib hGeq) (slowV E o) gx gy
  | .eql => bin2 (isb hEql hEqS) (slowV E o) gx gy
  | .neq => bin2 (isb hNeq hNeS) (slowV E o) gx gy
  | _ => slowV E o
theorem bin2_ok {E : Env} {o : Oper} {op : BinOp} {t u : TypeId} {x y : Operand} {h : AV → AV → Option AV} (ho : o.op = .binOp op t x y u) (hh : ∀ a b r, h a b = some r → fastBin op a b = some r) : VOk E o (bin2 h (slowV E o) (opG E.G x) (opG E.G y)) := fun f S a e => by
  obtain ⟨b, h1, h2⟩ := bnd_some e
  obtain ⟨c, h3, h4⟩ := bnd_some h2
  cases hq : h b c with
  | none =>
    rw [hq] at h4
    exact slowV_ok (by simp [isLook, ho]) f S a h4
  | some r =>
    rw [hq] at h4
    injection h4 with h4; subst h4
    have hf := hh b c _ hq
    rw [opG_ok] at h1 h3
    simp only [exec1, ho, h1, h3, neNil_fast hf, hf]
    rfl
theorem not_lt_le (x y : Int) : (!decide (y < x)) = decide (x ≤ y) := by
  by_cases h : y < x
  · rw [decide_eq_true h, decide_eq_false (by omega)]; rfl
  · rw [decide_eq_false h, decide_eq_true (by omega)]; rfl
theorem binV_ok {E : Env} {o : Oper} {op : BinOp} {t u : TypeId} {x y : Operand} (ho : o.op = .binOp op t x y u) : VOk E o (binV E o op (opG E.G x) (opG E.G y)) := by
  unfold binV
  split
  · refine bin2_ok ho fun a b r h => ?_
    obtain ⟨k, x, y, rfl, rfl, rfl⟩ := ib_some h
    simp [fastBin, hAdd, wrapR_eq, addI_eq]
  · refine bin2_ok ho fun a b r h => ?_
    obtain ⟨k, x, y, rfl, rfl, rfl⟩ := ib_some h
    simp [fastBin, hSub, wrapR_eq, subI_eq]
  · refine bin2_ok ho fun a b r h => ?_
    obtain ⟨k, x, y, rfl, rfl, rfl⟩ := ib_some h
    simp [fastBin, hLss, ltI_eq]
  · refine bin2_ok ho fun a b r h => ?_
    obtain ⟨k, x, y, rfl, rfl, rfl⟩ := ib_some h
    simp [fastBin, hGtr, ltI_eq]
  · refine bin2_ok ho fun a b r h => ?_
    obtain ⟨k, x, y, rfl, rfl, rfl⟩ := ib_some h
    simp only [fastBin, hLeq, ltI_eq, notR_eq, not_lt_le, if_true]
  · refine bin2_ok ho fun a b r h => ?_
    obtain ⟨k, x, y, rfl, rfl, rfl⟩ := ib_some h
    simp only [fastBin, hGeq, ltI_eq, notR_eq, not_lt_le, if_true]
  · refine bin2_ok ho fun a b r h => ?_
    rcases isb_some h with ⟨k, x, y, rfl, rfl, rfl⟩ | ⟨s, u, rfl, rfl, rfl⟩
    · simp [fastBin, hEql, eqI_eq]
    · simp [fastBin, hEqS]
  · refine bin2_ok ho fun a b r h => ?_
    rcases isb_some h with ⟨k, x, y, rfl, rfl, rfl⟩ | ⟨s, u, rfl, rfl, rfl⟩
    · simp only [fastBin, hNeq, eqI_eq, notR_eq, if_true]; rfl
    · simp only [fastBin, hNeS, notR_eq]
  · exact slowV_ok (by simp [isLook, ho])
/-- The rest. -/
def tupAt (i : Nat) (a : AV) : Option AV := PV.rec (motive := fun _ => Nat → Option AV) (fun _ _ _ => none) (fun _ _ => none) (fun _ => none) (fun _ _ _ _ _ => none) (fun _ _ => none) (fun cs i => atR i cs) (fun _ => none) (fun _ _ _ _ _ => none) a.pv i
def extrV (i : Nat) (g : GB) : VB := ⟨fun f _ => bnd (tupAt i) (g.g f)⟩
theorem extrV_ok {E : Env} {o : Oper} {x : Operand} {i : Nat} (ho : o.op = .extract x i) : VOk E o (extrV i (opG E.G x)) := fun f S a h => by
  obtain ⟨b, h1, h2⟩ := bnd_some h
  rw [opG_ok] at h1
  unfold tupAt at h2
  cases hp : b.pv with
  | t cs =>
    rw [hp] at h2
    have h2 : atR i cs = some a := h2
    rw [atR_eq] at h2
    rw [pv_t hp] at h1
    simp only [exec1, ho, h1, oExtract, h2, ofOpt]
  | p => rw [hp] at h2; cases h2
  | e => rw [hp] at h2; cases h2
  | n => rw [hp] at h2; cases h2
  | l => rw [hp] at h2; cases h2
  | a => rw [hp] at h2; cases h2
  | no => rw [hp] at h2; cases h2
  | w => rw [hp] at h2; cases h2
def makeIB (t : TypeId) (g : GB) : VB := ⟨fun f _ => bnd (fun a => some (.iface t a)) (g.g f)⟩
def makeIV (P : Program) (t : TypeId) (g : GB) : VB := match P.underlying t with
  | some (.interface _) => failV
  | some _ => makeIB t g
  | none => failV
theorem makeIV_ok {E : Env} {o : Oper} {x : Operand} {t : TypeId} (ho : o.op = .makeInterface t x) : VOk E o (makeIV E.P t (opG E.G x)) := by
  unfold makeIV
  split
  · exact failV_ok
  · rename_i d hne ht
    intro f S a h
    obtain ⟨b, h1, h2⟩ := bnd_some h
    rw [opG_ok] at h1
    injection h2 with h2; subst h2
    simp only [exec1, ho, h1, oMakeI, ht]
    cases d with
    | interface ms => exact (hne ms rfl).elim
    | _ => rfl
  · exact failV_ok
def pick1 (a b : Option AV) (s : SV) : Option AV := SV.rec (motive := fun _ => Option AV → Option AV → Option AV) (fun c a b => Bool.rec (motive := fun _ => Option AV) b a c) (fun _ _ _ _ => none) (fun _ _ _ => none) (fun _ _ => none) s a b
def pickV (gc ga gb : GB) : VB := ⟨fun f _ => bnd (fun c => pick1 (ga.g f) (gb.g f) c.sv) (gc.g f)⟩
theorem pickV_ok {E : Env} {o : Oper} {c x y : Operand} (ho : o.op = .pick c x y) : VOk E o (pickV (opG E.G c) (opG E.G x) (opG E.G y)) := fun f S a h => by
  obtain ⟨b, h1, h2⟩ := bnd_some h
  rw [opG_ok] at h1
  rw [opG_ok, opG_ok] at h2
  unfold pick1 at h2
  cases hs : b.sv with
  | b c =>
    rw [hs] at h2
    rw [sv_b hs] at h1
    simp only [exec1, ho, h1]
    cases c with
    | true => have h2 : evalO E.G f x = some a := h2; simp only [h2, ofOpt]
    | false => have h2 : evalO E.G f y = some a := h2; simp only [h2, ofOpt]
  | i => rw [hs] at h2; cases h2
  | s => rw [hs] at h2; cases h2
  | no => rw [hs] at h2; cases h2
end Go.Ax
