/- Rx -/
import Derived.Test.YtjgknelmjdallaaGreatDoorPbG26
import Derived.Test.YtjgknelmjdallaaGreatDoorPbG12
import Derived.Lib.LaidTab
set_option linter.unusedVariables false
set_option linter.unusedSimpArgs false
noncomputable section
namespace Go.Ax
open Go.RowKit Go.Proofs
set_option maxRecDepth 100000
theorem aN : E7.P = Tryz.prog := _root_.id rfl
theorem e7_G : E7.G = G7 := _root_.id rfl
theorem and_eq (F : Operand → Value) (dst : Option Tmp) (k : Tmp) (c : Int) (ty ty2 : TypeId) (pos : String) (af : Array Edge) (gd : Option (Nat × Bool)) : execOp F { dst := dst, op := .binOp .and 3 (.tmp k) (.const (.int .i64 c)) ty2, type := ty, pos := pos, after := af, guard := gd } = execOp (maxG (F (.tmp k)) (F (.const (.int .i64 c)))) { dst := none, op := .binOp .and 3 (.tmp 0) (.tmp 1) 3, type := ty, pos := "", after := #[], guard := none } := rfl
theorem and_val (a c : Int) (ty : TypeId) : Qg Tryz.prog 4000 (execOp (maxG (.int .i64 a) (.int .i64 c)) { dst := none, op := .binOp .and 3 (.tmp 0) (.tmp 1) 3, type := ty, pos := "", after := #[], guard := none }) = some (.int .i64 (bits .and .i64 a c)) := by kernel_rfl
def andO (r : OR) (S : St) (c : Int) (x : Option AV) : OR := match x with
 | some (.v (.int .i64 a)) => .val (.v (.int .i64 (bits .and .i64 a c))) S
 | _ => r
theorem andO_i (r : OR) (S : St) (c a : Int) : andO r S c (some (.v (.int .i64 a))) = .val (.v (.int .i64 (bits .and .i64 a c))) S := _root_.id rfl
theorem fb_and (a c : Int) : D5 .and (.v (.int .i64 a)) (.v (.int .i64 c)) = none := by simp [D5]
theorem eqOr_and (f : T AV) (S : St) (dst : Option Tmp) (k : Tmp) (c x : Int) (ty ty2 : TypeId) (pos : String) (af : Array Edge) (gd : Option (Nat × Bool)) :
  Mi Tryz.prog G7 f S { dst := dst, op := .binOp .and 3 (.tmp k) (.const (.int .i64 c)) ty2, type := ty, pos := pos, after := af, guard := gd } .and 3 (.v (.int .i64 x)) (.v (.int .i64 c)) = andO (sF Tryz.prog G7 f S { dst := dst, op := .binOp .and 3 (.tmp k) (.const (.int .i64 c)) ty2, type := ty, pos := pos, after := af, guard := gd } .and 3 (.v (.int .i64 x)) (.v (.int .i64 c))) S c (f.get k) := by
 unfold andO
 split
 ·rename_i a h1
  have hg1 : D2 G7 f (.tmp k) = some (.int .i64 a) := by unfold D2; simp only [Bc,h1]; rfl
  have hg2 : D2 G7 f (.const (.int .i64 c)) = some (.int .i64 c) := rfl
  have h0 : La Tryz.prog .and 3 (.v (.int .i64 x)) (.v (.int .i64 c)) = none := rfl
  unfold Mi
  rw [h0]
  simp only
  unfold ground
  have hall : ((Op.binOp .and 3 (.tmp k) (.const (.int .i64 c)) ty2 : Op).operands.toList.all fun x => (D2 G7 f x).isSome) = true := by
   show ([Operand.tmp k, Operand.const (.int .i64 c)].all fun x => (D2 G7 f x).isSome) = true
   simp only [List.all_cons,List.all_nil,hg1,hg2,Option.isSome_some,Bool.and_self]
  refine (if_pos hall).trans ?_
  rw [and_eq]
  have e1 : (D2 G7 f (.tmp k)).getD undef = .int .i64 a := by rw [hg1]; rfl
  have e2 : (D2 G7 f (.const (.int .i64 c))).getD undef = .int .i64 c := by rw [hg2]; rfl
  simp only [e1,e2,and_val]
  rfl
 ·rfl
theorem bd33 : Gx Tryz.prog 33 [] = some (.agg (Dv 0 0)) := by kernel_rfl
theorem len40n (S : St) : Ie Tryz.prog S 40 .nils = some 0 := by kernel_rfl
theorem nn33 (a b : AV) : Gy Tryz.prog 33 a b = false := by
 have u33 : (match Tryz.prog.underlying 33 with | some (.struct _) => true | _ => false) = true := by kernel_rfl
 unfold Gy
 split at u33
 ·rename_i h; rw [h]
 ·cases u33
theorem fb33 (x y : List AV) : D5 .neq (.agg x) (.agg y) = none := rfl
noncomputable def nU (P : Program) (t : TypeId) : Bool := match P.underlying t with
 | some (.int _) => true
 | _ => false
theorem jZ {P : Program} {t : TypeId} (h : nU P t = true) : ∃ k, P.underlying t = some (.int k) := by
 unfold nU at h
 split at h
 ·rename_i k hk; exact ⟨k, hk⟩
 ·cases h
noncomputable def qP (P : Program) (f : Field) (o : Nat) : Bool := !decide (f.name = "_") && decide (f.offset = o) && decide (Ff P f.type = some false) && nU P f.type
noncomputable def oE : Bool := match fieldsOf Tryz.prog 33 with
 | some fs => (match fs.toList with
  | [f, g] => qP Tryz.prog f 0 && qP Tryz.prog g 1 && !(Tryz.prog.stoodInHeld 33) && !(Tryz.prog.eqGuardType Tryz.prog.depth 33)
  | _ => false)
 | none => false
theorem cT : oE = true := by kernel_rfl
theorem Pa {P : Program} {f : Field} {o : Nat} (h : qP P f o = true) : f.name ≠ "_" ∧ f.offset = o ∧ Ff P f.type = some false ∧ ∃ k, P.underlying f.type = some (.int k) := by
 unfold qP at h
 simp only [Bool.and_eq_true,decide_eq_true_eq,Bool.not_eq_true',decide_eq_false_iff_not] at h
 exact ⟨h.1.1.1, h.1.1.2, h.1.2, jZ h.2⟩
theorem fq33 (a e : Int) : La Tryz.prog .neq 33 (.agg [.v (.int .i64 a), .v (.int .i64 e)]) (.agg [.v (.int .i64 0), .v (.int .i64 0)]) = some (.v (.bool (!((a == 0) && ((e == 0) && true))))) := by
 have h := cT
 unfold oE at h
 split at h
 ·rename_i fs hfs
  split at h
  ·rename_i f g hl
   simp only [Bool.and_eq_true,Bool.not_eq_true'] at h
   obtain ⟨⟨⟨h1, h2⟩, h3⟩, h4⟩ := h
   obtain ⟨f1, f2, f3, k1, f4⟩ := Pa h1
   obtain ⟨g1, g2, g3, k2, g4⟩ := Pa h2
   cases ha : (a == 0) <;> cases he : (e == 0) <;> simp [La, hfs, h3, h4, hl, Vp, f1, f2, f3, g1, g2, g3, Zn, f4, g4, ha, he]
  ·cases h
 ·cases h
theorem fe33 (a e : Int) : La Tryz.prog .eql 33 (.agg [.v (.int .i64 a), .v (.int .i64 e)]) (.agg [.v (.int .i64 0), .v (.int .i64 0)]) = some (.v (.bool ((a == 0) && ((e == 0) && true)))) := by
 have h := cT
 unfold oE at h
 split at h
 ·rename_i fs hfs
  split at h
  ·rename_i f g hl
   simp only [Bool.and_eq_true,Bool.not_eq_true'] at h
   obtain ⟨⟨⟨h1, h2⟩, h3⟩, h4⟩ := h
   obtain ⟨f1, f2, f3, k1, f4⟩ := Pa h1
   obtain ⟨g1, g2, g3, k2, g4⟩ := Pa h2
   cases ha : (a == 0) <;> cases he : (e == 0) <;> simp [La, hfs, h3, h4, hl, Vp, f1, f2, f3, g1, g2, g3, Zn, f4, g4, ha, he]
  ·cases h
 ·cases h
end Go.Ax
noncomputable section
namespace Go.Ax
open Go.RowKit Go.Proofs
set_option maxRecDepth 100000
def Em {α : Type} (x : PR α) : Prop := ∀ a e, x = .bad a e → e ≠ 0
section
variable {α β : Type}
theorem Em.ok {a : α} {j : Nat} : Em (.ok a j) := fun _ _ h => by cases h
theorem Em.out : Em (.out : PR α) := fun _ _ h => by cases h
theorem Em.bad {a e : Nat} (h : e ≠ 0) : Em (.bad a e : PR α) := fun _ _ h' => by injection h' with h1 h2; subst h2; exact h
theorem Em.bind {x : PR α} {f : α → Nat → PR β} (h : Em x) (hf : ∀ a j, Em (f a j)) : Em (x.bind f) := by
 cases x with
 | ok a j => exact hf a j
 | bad a e => exact .bad (h a e rfl)
 | out => exact .out
theorem Em.ite {c : Prop} [Decidable c] {x y : PR α} (h1 : Em x) (h2 : Em y) : Em (if c then x else y) := by
 by_cases h : c
 ·rw [if_pos h]; exact h1
 ·rw [if_neg h]; exact h2
end
theorem P5 (t : Tk) : Gb t ≠ 0 := by unfold Gb; split <;> decide
section
variable {ts : List Tk}
theorem F0 (ws : List (List UInt8)) (i : Nat) : Em (Dr ts ws i) := by unfold Dr; exact .ite .ok (.bad (P5 _))
theorem Ik (k i : Nat) : Em (Ft ts k i) := by unfold Ft; exact .ite .ok (.bad (P5 _))
theorem Hx (i : Nat) : Em (Iq ts i) := by
 unfold Iq
 exact .ite ((Ik 1 (i + 1)).bind fun _ _ => .ok) ((Ik 1 i).bind fun _ _ => .ok)
theorem Ns (i : Nat) : Em (Md ts i) := by
 unfold Md
 split
 ·exact .out
 ·refine .ite ?_ ?_
  ·split
   ·exact .out
   ·exact .ite .ok (.bad (P5 _))
  ·exact .ite (.ite (.bad (by decide)) .ok) (.bad (P5 _))
theorem Mt (ws : List (List UInt8)) {kid : Nat → PR PE} (hk : ∀ i, Em (kid i)) : ∀ (n : Nat) (x : PE) (i : Nat), Em (Ju ts ws kid n x i)
 | 0, _, _ => .out
 | n + 1, x, i => by unfold Ju; exact .ite ((hk _).bind fun _ _ => Mt ws hk n _ _) .ok
theorem Jt : ∀ (n : Nat) (x : PE) (i : Nat), Em (Ka ts n x i)
 | 0, _, _ => .out
 | n + 1, x, i => by unfold Ka; exact .ite ((Hx _).bind fun _ _ => Jt n _ _) .ok
theorem Jn {kid : Nat → PR PE} (hk : ∀ i, Em (kid i)) : ∀ (n : Nat) (l : List PE) (i : Nat), Em (Hh ts kid n l i)
 | 0, _, _ => .out
 | n + 1, l, i => by unfold Hh; exact .ite ((hk _).bind fun _ _ => Jn hk n _ _) ((F0 _ _).bind fun _ _ => .ok)
theorem Kj {kid : Nat → PR PE} (hk : ∀ i, Em (kid i)) (n i : Nat) : Em (Lp ts kid n i) := by
 unfold Lp
 exact (F0 _ _).bind fun _ _ => .ite .ok ((hk _).bind fun _ _ => Jn hk n _ _)
theorem P_b : ∀ (n : Nat) (nt : NT) (i : Nat), Em (P ts n nt i)
 | 0, nt, i => by cases nt <;> exact .out
 | n + 1, .expr, i => by
  simp only [P]
  repeat' (first | exact Em.ok | exact Em.out | exact F0 _ _ | exact Ik _ _ | exact Ns _ | exact Hx _ | exact P_b n _ _ | exact Mt _ (P_b n _) n _ _ | exact Jt n _ _ | exact Jn (P_b n _) n _ _ | exact Kj (P_b n _) n _ | refine Em.bind ?_ (fun _ _ => ?_) | refine Em.ite ?_ ?_)
 | n + 1, .arrow, i => by
  simp only [P]
  repeat' (first | exact Em.ok | exact Em.out | exact F0 _ _ | exact Ik _ _ | exact Ns _ | exact Hx _ | exact P_b n _ _ | exact Mt _ (P_b n _) n _ _ | exact Jt n _ _ | exact Jn (P_b n _) n _ _ | exact Kj (P_b n _) n _ | refine Em.bind ?_ (fun _ _ => ?_) | refine Em.ite ?_ ?_)
 | n + 1, .or, i => by
  simp only [P]
  repeat' (first | exact Em.ok | exact Em.out | exact F0 _ _ | exact Ik _ _ | exact Ns _ | exact Hx _ | exact P_b n _ _ | exact Mt _ (P_b n _) n _ _ | exact Jt n _ _ | exact Jn (P_b n _) n _ _ | exact Kj (P_b n _) n _ | refine Em.bind ?_ (fun _ _ => ?_) | refine Em.ite ?_ ?_)
 | n + 1, .and, i => by
  simp only [P]
  repeat' (first | exact Em.ok | exact Em.out | exact F0 _ _ | exact Ik _ _ | exact Ns _ | exact Hx _ | exact P_b n _ _ | exact Mt _ (P_b n _) n _ _ | exact Jt n _ _ | exact Jn (P_b n _) n _ _ | exact Kj (P_b n _) n _ | refine Em.bind ?_ (fun _ _ => ?_) | refine Em.ite ?_ ?_)
 | n + 1, .not, i => by
  simp only [P]
  repeat' (first | exact Em.ok | exact Em.out | exact F0 _ _ | exact Ik _ _ | exact Ns _ | exact Hx _ | exact P_b n _ _ | exact Mt _ (P_b n _) n _ _ | exact Jt n _ _ | exact Jn (P_b n _) n _ _ | exact Kj (P_b n _) n _ | refine Em.bind ?_ (fun _ _ => ?_) | refine Em.ite ?_ ?_)
 | n + 1, .sum, i => by
  simp only [P]
  repeat' (first | exact Em.ok | exact Em.out | exact F0 _ _ | exact Ik _ _ | exact Ns _ | exact Hx _ | exact P_b n _ _ | exact Mt _ (P_b n _) n _ _ | exact Jt n _ _ | exact Jn (P_b n _) n _ _ | exact Kj (P_b n _) n _ | refine Em.bind ?_ (fun _ _ => ?_) | refine Em.ite ?_ ?_)
 | n + 1, .term, i => by
  simp only [P]
  repeat' (first | exact Em.ok | exact Em.out | exact F0 _ _ | exact Ik _ _ | exact Ns _ | exact Hx _ | exact P_b n _ _ | exact Mt _ (P_b n _) n _ _ | exact Jt n _ _ | exact Jn (P_b n _) n _ _ | exact Kj (P_b n _) n _ | refine Em.bind ?_ (fun _ _ => ?_) | refine Em.ite ?_ ?_)
 | n + 1, .unary, i => by
  simp only [P]
  repeat' (first | exact Em.ok | exact Em.out | exact F0 _ _ | exact Ik _ _ | exact Ns _ | exact Hx _ | exact P_b n _ _ | exact Mt _ (P_b n _) n _ _ | exact Jt n _ _ | exact Jn (P_b n _) n _ _ | exact Kj (P_b n _) n _ | refine Em.bind ?_ (fun _ _ => ?_) | refine Em.ite ?_ ?_)
 | n + 1, .when, i => by
  simp only [P]
  repeat' (first | exact Em.ok | exact Em.out | exact F0 _ _ | exact Ik _ _ | exact Ns _ | exact Hx _ | exact P_b n _ _ | exact Mt _ (P_b n _) n _ _ | exact Jt n _ _ | exact Jn (P_b n _) n _ _ | exact Kj (P_b n _) n _ | refine Em.bind ?_ (fun _ _ => ?_) | refine Em.ite ?_ ?_)
 | n + 1, .primary, i => by
  simp only [P]
  repeat' (first | exact Em.ok | exact Em.out | exact F0 _ _ | exact Ik _ _ | exact Ns _ | exact Hx _ | exact P_b n _ _ | exact Mt _ (P_b n _) n _ _ | exact Jt n _ _ | exact Jn (P_b n _) n _ _ | exact Kj (P_b n _) n _ | refine Em.bind ?_ (fun _ _ => ?_) | refine Em.ite ?_ ?_)
 | n + 1, .name, i => by
  simp only [P]
  repeat' (first | exact Em.ok | exact Em.out | exact F0 _ _ | exact Ik _ _ | exact Ns _ | exact Hx _ | exact P_b n _ _ | exact Mt _ (P_b n _) n _ _ | exact Jt n _ _ | exact Jn (P_b n _) n _ _ | exact Kj (P_b n _) n _ | refine Em.bind ?_ (fun _ _ => ?_) | refine Em.ite ?_ ?_)
 | n + 1, .call, i => by
  simp only [P]
  repeat' (first | exact Em.ok | exact Em.out | exact F0 _ _ | exact Ik _ _ | exact Ns _ | exact Hx _ | exact P_b n _ _ | exact Mt _ (P_b n _) n _ _ | exact Jt n _ _ | exact Jn (P_b n _) n _ _ | exact Kj (P_b n _) n _ | refine Em.bind ?_ (fun _ _ => ?_) | refine Em.ite ?_ ?_)
 | n + 1, .brk, i => by
  simp only [P]
  repeat' (first | exact Em.ok | exact Em.out | exact F0 _ _ | exact Ik _ _ | exact Ns _ | exact Hx _ | exact P_b n _ _ | exact Mt _ (P_b n _) n _ _ | exact Jt n _ _ | exact Jn (P_b n _) n _ _ | exact Kj (P_b n _) n _ | refine Em.bind ?_ (fun _ _ => ?_) | refine Em.ite ?_ ?_)
 | n + 1, .lit, i => by
  simp only [P]
  repeat' (first | exact Em.ok | exact Em.out | exact F0 _ _ | exact Ik _ _ | exact Ns _ | exact Hx _ | exact P_b n _ _ | exact Mt _ (P_b n _) n _ _ | exact Jt n _ _ | exact Jn (P_b n _) n _ _ | exact Kj (P_b n _) n _ | refine Em.bind ?_ (fun _ _ => ?_) | refine Em.ite ?_ ?_)
theorem oZ (i : Nat) : Em (Iz ts i) := by
 unfold Iz
 exact (Ik _ _).bind fun _ _ => (F0 _ _).bind fun _ _ => .ite ((F0 _ _).bind fun _ _ => .ok) ((F0 _ _).bind fun _ _ => .ok)
theorem dI (i : Nat) : Em (Fw ts i) := by
 unfold Fw
 exact (oZ _).bind fun _ _ => .ite ((Hx _).bind fun _ _ => (F0 _ _).bind fun _ _ => .ok) ((F0 _ _).bind fun _ _ => .ok)
theorem fV (i : Nat) : Em (Hu ts i) := by
 unfold Hu
 exact (Ik _ _).bind fun _ _ => .ok
theorem fG {α : Type} {kid : Nat → PR α} (hk : ∀ i, Em (kid i)) : ∀ (n : Nat) (l : List α) (i : Nat), Em (Hd ts kid n l i)
 | 0, _, _ => .out
 | n + 1, l, i => by unfold Hd; exact .ite ((hk _).bind fun _ _ => fG hk n _ _) ((F0 _ _).bind fun _ _ => .ok)
theorem rE {α : Type} {kid : Nat → PR α} (hk : ∀ i, Em (kid i)) (n i : Nat) : Em (Kw ts kid n i) := by
 unfold Kw
 exact (F0 _ _).bind fun _ _ => .ite .ok ((hk _).bind fun _ _ => fG hk n _ _)
theorem wK : ∀ (n : Nat) (l : List PD) (i : Nat), Em (Kb ts n l i)
 | 0, _, _ => .out
 | n + 1, l, i => by unfold Kb; exact .ite ((dI _).bind fun _ _ => wK n _ _) .ok
theorem lefts_b (n i : Nat) : Em (J0 ts n i) := by
 unfold J0
 exact .ite ((fV _).bind fun _ _ => .ok) ((F0 _ _).bind fun _ _ => (fV _).bind fun _ _ => (F0 _ _).bind fun _ _ => ((fV _).bind fun _ _ => fG fV n _ _).bind fun _ _ => .ok)
theorem bF {kid : Nat → PR PE} (hk : ∀ i, Em (kid i)) (i : Nat) : Em (Fz kid i) := by
 unfold Fz
 exact (hk i).bind fun _ _ => .ite (.bad (by decide)) .ok
theorem eq_b (n i : Nat) : Em (eqP ts n i) := by
 unfold eqP
 exact (lefts_b n i).bind fun _ _ => (F0 _ _).bind fun _ _ => .ite ((bF (P_b n .call) _).bind fun _ _ => (F0 _ _).bind fun _ _ => .ok) ((bF (P_b n .expr) _).bind fun _ _ => (F0 _ _).bind fun _ _ => .ok)
theorem eqs_b (N : Nat) : ∀ (n : Nat) (l : List PQ) (i : Nat), Em (Rk ts N n l i)
 | 0, _, _ => .out
 | n + 1, l, i => by unfold Rk; exact .ite .ok ((eq_b N i).bind fun _ _ => eqs_b N n _ _)
theorem varsQ_b (n i : Nat) : Em (Pu ts n i) := by
 unfold Pu
 exact .ite ((dI _).bind fun _ _ => wK n _ _) .ok
theorem yE (n i : Nat) : Em (Kv ts n i) := by
 unfold Kv
 exact (F0 _ _).bind fun _ _ => (Ik _ _).bind fun _ _ => (rE oZ n _).bind fun _ _ => (F0 _ _).bind fun _ _ => (rE oZ n _).bind fun _ _ => (varsQ_b n _).bind fun _ _ => (F0 _ _).bind fun _ _ => (eqs_b n n _ _).bind fun _ _ => (F0 _ _).bind fun _ _ => .ok
theorem xN (N : Nat) : ∀ (n : Nat) (l : List PN) (i : Nat), Em (Ma ts N n l i)
 | 0, _, _ => .out
 | n + 1, l, i => by unfold Ma; exact .ite ((yE N i).bind fun _ _ => xN N n _ _) .ok
theorem tY (n i : Nat) : Em (Fe ts n i) := by
 unfold Fe
 exact (yE n i).bind fun _ _ => xN n n _ _
end
theorem tS {n : Nat} {out : (Nat × Nat) ⊕ List Tk} {y : Nat × Nat} (h : Ke n out = some (.inr y)) (hx : ∀ x, out = .inl x → x.2 ≠ 0) : y.2 ≠ 0 := by
 unfold Ke at h
 split at h
 ·rename_i x
  injection h with h; injection h with h; subst h
  exact hx _ rfl
 ·rename_i ts
  cases hp : Fe ts n 0 with
  | out => rw [hp] at h; cases h
  | bad a e =>
   rw [hp] at h
   injection h with h; injection h with h; subst h
   exact tY n 0 a e hp
  | ok l j =>
   rw [hp] at h
   simp only at h
   split at h
   ·injection h with h; cases h
   ·injection h with h; injection h with h; subst h
    exact P5 _
end Go.Ax
noncomputable section
namespace Go.Ax
open Go.RowKit Go.Proofs
set_option maxRecDepth 100000
theorem fbe33 (x y : List AV) : D5 .eql (.agg x) (.agg y) = none := _root_.id rfl
theorem eq7n (f : T AV) (S : St) (o : Oper) (a e : Nat) : Mi Tryz.prog G7 f S o .neq 33 (.agg (Dv a e)) (.agg (Dv 0 0)) = .val (.v (.bool (!(((a : Int) == 0) && (((e : Int) == 0) && true))))) S := by
 unfold Mi
 have h : La Tryz.prog .neq 33 (.agg (Dv a e)) (.agg (Dv 0 0)) = some (.v (.bool (!(((a : Int) == 0) && (((e : Int) == 0) && true))))) := fq33 a e
 rw [h]
theorem eq7e (f : T AV) (S : St) (o : Oper) (a e : Nat) : Mi Tryz.prog G7 f S o .eql 33 (.agg (Dv a e)) (.agg (Dv 0 0)) = .val (.v (.bool (((a : Int) == 0) && (((e : Int) == 0) && true)))) S := by
 unfold Mi
 have h : La Tryz.prog .eql 33 (.agg (Dv a e)) (.agg (Dv 0 0)) = some (.v (.bool (((a : Int) == 0) && (((e : Int) == 0) && true)))) := fe33 a e
 rw [h]
def tI (which : Int) (j : Nat) : Nat := (bits .and .i64 (IntKind.i64.wrap ((j : Int) + bits .and .i64 which 255)) 3).toNat
theorem qD (which : Int) (j : Nat) : bits .and .i64 (IntKind.i64.wrap ((j : Int) + bits .and .i64 which 255)) 3 = ((tI which j : Nat) : Int) ∧ tI which j < 4 := by
 obtain ⟨n, hn, he⟩ := sO (IntKind.i64.wrap ((j : Int) + bits .and .i64 which 255)) 3 (by decide)
 have he : bits .and .i64 (IntKind.i64.wrap ((j : Int) + bits .and .i64 which 255)) 3 = (n : Int) := he
 unfold tI
 rw [he]
 exact ⟨by simp, by simp; omega⟩
def Te (which : Int) (j : Nat) : List UInt8 := Oa[tI which j]'(by have := (qD which j).2; exact this)
theorem iN (which : Int) (j : Nat) : Te which j ∈ Oa := List.getElem_mem _
theorem wZ (which : Int) (j : Nat) : (Te which j).length ≤ 7 := by
 have h : ∀ s ∈ Oa, s.length ≤ 7 := by decide
 exact h _ (iN which j)
theorem rowSep : Dl Tryz.prog 69 4 [(0, .v (.string ⟨#[32]⟩)), (1, .v (.string ⟨#[10]⟩)), (2, .v (.string ⟨#[9]⟩)), (3, .v (.string ⟨#[32, 45, 45, 32, 40, 120, 10]⟩))] = some (.sl 1 0 1 (Oa.map Cl)) := by kernel_rfl
theorem rI (f : Nat → List UInt8) (hf : ∀ k, (f k).length ≤ 7) : ∀ (ts : List Tk) (k : Nat), (∀ t ∈ ts, t.text.length ≤ 600) → (laid f k ts).length ≤ ts.length * 607
 | [], k, _ => by simp [laid]
 | t :: r, k, h => by
  have h1 := rI f hf r (k + 1) (fun x hx => h x (List.mem_cons_of_mem _ hx))
  have h2 := h t (List.mem_cons_self ..)
  have h3 := hf k
  show (t.text ++ (f k ++ laid f (k + 1) r)).length ≤ _
  simp only [List.length_append,List.length_cons]
  omega
noncomputable def mY : Code := match Tryz.f6.body with
 | some (.seq _ (.seq _ (.seq _ r))) => r
 | _ => .skip
noncomputable def mZ : Code := (F6 (Tryz.f6.body.getD .skip)).getD .skip
theorem fn7_19 : ∃ fn, E7.F 19 = some fn := Option.isSome_iff_exists.1 (by kernel_rfl)
theorem fn7_20 : ∃ fn, E7.F 20 = some fn := Option.isSome_iff_exists.1 (by kernel_rfl)
theorem fn7_25 : ∃ fn, E7.F 25 = some fn := Option.isSome_iff_exists.1 (by kernel_rfl)
theorem i7_19 (args : List AV) (S : St) (Q : R → Prop) (h : Q (Mw args S)) : WC E7 19 args S Q := Lv (g := Mw) (by kernel_rfl) h
theorem i7_25 (args : List AV) (S : St) (Q : R → Prop) (h : Q (Vh args S)) : WC E7 25 args S Q := Lv (g := Vh) (by kernel_rfl) h
theorem i7_20 {v : AV} {l : List PN} (hp : Rh v l) (S : St) (Q : R → Prop) (h : Q (.ret (.v (.string (Sd l))) S)) : WC E7 20 [v] S Q := by
 refine Lv (g := Fp Vb) (by kernel_rfl) ?_
 unfold Fp
 rw [xO hp]
 exact h
theorem lexI_is {l : List UInt8} {ts : List Tk} (hsz : l.length ≤ 1000000) (h : Kk l = some (.inr ts)) (S : St) : Vh [Cl l] S = .ret (.tup [.sl 0 0 4 (ts.map E3), .agg (Dv 0 0)]) S := by
 unfold Vh Cl
 simp only
 have h1 : (⟨⟨l⟩⟩ : ByteArray).size ≤ 1000000 := hsz
 have h2 : lexK (⟨⟨l⟩⟩ : ByteArray).data.toList.length (⟨⟨l⟩⟩ : ByteArray).data.toList = some (.inr ts) := (rG l).trans h
 rw [if_pos h1, h2]
def PbPost (tx : List UInt8) (which : Int) (v : AV) (t6 : AV) (r : O) : Prop := ∃ t' S', r = .out (.exit 0) ⟨t', []⟩ S' ∧ t'.get 9 = some (.v (.string ⟨⟨tx⟩⟩)) ∧ t'.get 5 = some v
set_option maxHeartbeats 16000000 in
theorem qM (ts : List Tk) (hlen : ts.length ≤ 1000) (which : Int) (v : AV) (tx : List UInt8) (hT : tx.length ≤ 1000000) :
  ∀ (m j : Nat) (acc : List UInt8) (t : T AV) (S : St), j + m = ts.length → acc ++ laid (Te which) j (ts.drop j) = tx → t.get 1 = some (.v (.int .i64 which)) → t.get 5 = some v → t.get 9 = some (.v (.string ⟨⟨acc⟩⟩)) → t.get 34 = some (.sl 0 0 4 (ts.map E3)) → t.get 35 = some (.v (.int .i64 (ts.length : Int))) → t.get 36 = some (.v (.int .i64 (j : Int))) →
   WX E7 73 (.loop mZ) ⟨t, []⟩ S (PbPost tx which v .nils)
 | 0, j, acc, t, S, hj, hacc, h1, h5, h9, h34, h35, h36 => by
  refine Ew (Eg ?_)
  have hlt : decide ((j : Int) < (ts.length : Int)) = false := decide_eq_false (by omega)
  simp only [B8,Br,A8,Bk,Bn,B3,Dh,A7,Fk,Bl,A9,Bq,Bp,Dk,A4,Bd,Bc,A0,ofOpt,B5,Dg,Nat.reduceLT,Nat.reduceEqDiff,Aa,Ab,Ac,Ae,Am,aN,mZ,F6,Tryz.f6,h34,h35,h36,hlt]
  have e : ts.drop j = [] := List.drop_of_length_le (by omega)
  rw [e] at hacc
  have hacc : acc = tx := by rw [← hacc]; exact (List.append_nil acc).symm
  exact ⟨_, _, rfl, by simp only [A0,Nat.reduceEqDiff,Ab]; rw [h9, hacc], by simp only [A0,Nat.reduceEqDiff,Ab]; exact h5⟩
 | m + 1, j, acc, t, S, hj, hacc, h1, h5, h9, h34, h35, h36 => by
  refine Ew (Eg ?_)
  have hlt : decide ((j : Int) < (ts.length : Int)) = true := decide_eq_true (by omega)
  have hjl : j < ts.length := by omega
  have q1 := kE 0 ts j hjl
  have q2 := yX S ts[j]
  rw [List.drop_eq_getElem_cons hjl] at hacc
  have hacc : acc ++ (ts[j].text ++ (Te which j ++ laid (Te which) (j + 1) (ts.drop (j + 1)))) = tx := hacc
  obtain ⟨n1, n2⟩ := qD which j
  have hsf : Te which j = Oa[tI which j]'n2 := rfl
  generalize hd : ts[j] = d at q1 q2 hacc
  have q3 : C5 Tryz.prog (S.newBox (Da Cz)) 68 (.ptr S.next 0) (E3 d) = some ((S.newBox (Da Cz)).put S.next (Da d)) := Kc S (Da Cz) (Da d) rfl rfl
  have q4 := Xi (En (S.newBox (Da Cz)) S.next (Da d))
  have q5 := zG 1 0 Oa (tI which j) n2
  have hTl : acc.length + d.text.length + (Te which j).length ≤ 1000000 := by
   rw [← hacc] at hT; simp only [List.length_append] at hT; omega
  have c1 := D3 d.text (Te which j) (by omega)
  have c2 := D3 acc (d.text ++ Te which j) (by simp only [List.length_append]; omega)
  have w1 : IntKind.i64.wrap ((j : Int) + 1) = ((j + 1 : Nat) : Int) := H6 (j := 1) (by omega)
  rw [← hsf] at q5
  simp only [B8,Br,A8,Cu,Bk,Bn,B3,Dh,A7,Fk,Bl,A9,Bq,Gi,Gw,Bp,C6,A4,Bd,Bc,A0,ofOpt,ofOptS,B5,Dg,Nat.reduceLT,Nat.reduceEqDiff,Aa,Ab,Ac,Ae,Am,aN,mZ,F6,Tryz.f6,h34,h35,h36,hlt,q1,q2,Fh,q3]
  refine Ij [(0, true), (1, true), (2, true), (3, true), (4, true), (5, true), (6, true), (7, true), (8, true), (9, true), (10, true), (11, true), (12, true), (13, true)] (by kernel_rfl) (by kernel_rfl) ?_
  simp only [B4,A8,A7,Ca,Bl,A9,Bq,Bp,A4,Bd,Bc,A0,ofOpt,Be,Bt,B5,Ds,Nat.reduceLT,Nat.reduceEqDiff,Aa,Ab,Ac,Af,Ag,Ah,Am,Dd,aN,e7_G,fb_and,eqOr_and,andO_i,h1,h9,h36,fa68,q4,Cl,rowSep,n1,q5,rB,c1,c2,w1,Fi,Dx,Eb,Dy,Gd,G3]
  refine qM ts hlen which v tx hT m (j + 1) (acc ++ (d.text ++ Te which j)) _ _ (by omega) ?_ (by simp only [A0,Nat.reduceEqDiff,Ab]; exact h1) (by simp only [A0,Nat.reduceEqDiff,Ab]; exact h5) (by simp only [A0,Nat.reduceEqDiff,Ab,Aa]) (by simp only [A0,Nat.reduceEqDiff,Ab]; exact h34) (by simp only [A0,Nat.reduceEqDiff,Ab]; exact h35) (by simp only [A0,Nat.reduceEqDiff,Ab,Aa])
  rw [← hacc]; simp only [List.append_assoc]
theorem eq7nz (f : T AV) (S : St) (o : Oper) : Mi Tryz.prog G7 f S o .neq 33 (.agg (Dv 0 0)) (.agg (Dv 0 0)) = .val (.v (.bool false)) S := eq7n f S o 0 0
theorem eq7ez (f : T AV) (S : St) (o : Oper) : Mi Tryz.prog G7 f S o .eql 33 (.agg (Dv 0 0)) (.agg (Dv 0 0)) = .val (.v (.bool true)) S := eq7e f S o 0 0
theorem fb_self (x : ByteArray) : D5 .eql (.v (.string x)) (.v (.string x)) = some (.v (.bool true)) := by
 show some (AV.v (.bool (Ji x.data.toList x.data.toList))) = _
 rw [Io]; simp
theorem olen9 (S : St) (l : List UInt8) : Ie Tryz.prog S 9 (.v (.string ⟨⟨l⟩⟩)) = some l.length := by
 have u9 : Tryz.prog.underlying 9 = some .string := by kernel_rfl
 unfold Ie
 rw [u9]; rfl
theorem olen63 (S : St) (k : Nat) (ts : List Tk) : Ie Tryz.prog S 63 (.sl k 0 4 (ts.map E3)) = some ts.length := by simp [Ie, u63]
def EndsB (r : O) : Prop := ∃ f' S', r = .out .ret ⟨f', []⟩ S' ∧ f'.get 4 = some (.v (.bool true))
set_option maxHeartbeats 16000000 in
theorem pb_rest (s : List UInt8) (hs : s.length ≤ 600) (out : (Nat × Nat) ⊕ List Tk) (hlx : Kk s = some out) (which : Int) (S : St) (t : T AV) (h0 : t.get 0 = some (.v (.string ⟨⟨s⟩⟩))) (h1 : t.get 1 = some (.v (.int .i64 which))) : W E7 73 mY ⟨t, []⟩ S EndsB := by
 obtain ⟨fn1, hf1⟩ := fn7_19
 obtain ⟨fn2, hf2⟩ := fn7_20
 obtain ⟨fn3, hf3⟩ := fn7_25
 simp only [A8,Bk,A9,Bq,B9,Bp,A4,Bd,Bc,A0,Bm,B0,ofOpt,Nat.reduceLT,Aa,Ac,Aj,Ak,mY,h0,Tryz.f6,hf1]
 refine i7_19 _ _ _ ?_
 have hpc : Mw [.v (.string ⟨⟨s⟩⟩)] S = Mw [Cl s] S := rfl
 rw [hpc]
 rcases qL (l := s) (by omega) hlx S with ⟨ns, v, hr, hp, hi⟩ | ⟨y, hr, hp⟩
 ·rw [hp]
  cases out with
  | inl x => cases hr
  | inr ts =>
  have q1 := R6 (Dq S (Dv 0 0)) rfl (rfl : (Dv 0 0).length = 2)
  have q2 := Jq (S.newBox (Dv 0 0)) S.next (Dv 0 0) rfl
  generalize hS1 : (S.newBox (Dv 0 0)).put S.next (Dv 0 0) = S1 at q1 q2
  simp only [Br,A8,Bk,Bn,A7,Bl,A9,Bq,Gi,B9,Gw,Bp,C8,Dk,A4,Bd,Bc,A0,Bm,B0,ofOpt,ofOptS,Bt,Nat.reduceLT,Nat.reduceEqDiff,Aa,Ab,Ac,Ag,Ah,Aj,Ak,Am,aN,e7_G,nn33,fb33,h0,q1,q2,hf3,Ux,bd33,B7,eq7nz]
  refine i7_25 _ _ _ ?_
  have hlc : Vh [.v (.string ⟨⟨s⟩⟩)] S1 = .ret (.tup [.sl 0 0 4 (ts.map E3), .agg (Dv 0 0)]) S1 := lexI_is (by omega) hlx S1
  rw [hlc]
  have q3 := R6 (Dq S1 (Dv 0 0)) rfl (rfl : (Dv 0 0).length = 2)
  generalize hS2 : (S1.newBox (Dv 0 0)).put S1.next (Dv 0 0) = S2 at q3
  simp only [A8,Bk,B3,D1,A7,Bl,A9,Bq,Gi,Gw,Bp,C8,A4,Bd,Bc,A0,Bm,ofOpt,ofOptS,Be,Nat.reduceLT,Nat.reduceEqDiff,Aa,Ab,Ac,Ag,Ah,aN,q3,olen63,Ux,B7]
  have hat := rF hlx
  have htl : ts.length ≤ 601 := by have := cF hlx; omega
  have htx : ∀ x ∈ ts, x.text.length ≤ 600 := fun x hx => by
   obtain ⟨j, hj, rfl⟩ := List.getElem_of_mem hx
   have := hat j hj
   have e : tk ts j = ts[j] := by unfold tk; rw [List.getElem?_eq_getElem hj]; rfl
   rw [e] at this
   unfold stB at this
   rw [Bool.and_eq_true, decide_eq_true_eq] at this
   omega
  have hTl := rI (Te which) (wZ which) ts 0 htx
  have hTl2 : ts.length * 607 ≤ 601 * 607 := Nat.mul_le_mul htl (Nat.le_refl _)
  refine WX.mono (qM ts (by omega) which v (laid (Te which) 0 ts) (by omega) ts.length 0 [] _ S2 (by omega) (by simp) (by simp only [A0,Nat.reduceEqDiff,Ab]; exact h1) (by simp only [A0,Nat.reduceEqDiff,Ab,Aa]) (by simp only [A0,Nat.reduceEqDiff,Ab,Aa]) (by simp only [A0,Nat.reduceEqDiff,Ab,Aa]) (by simp only [A0,Nat.reduceEqDiff,Ab,Aa]) (by simp only [A0,Nat.reduceEqDiff,Ab,Aa]; rfl)) ?_
  rintro _ ⟨t', S', rfl, h9, h5⟩
  obtain ⟨j, hpj, hnf, hnl⟩ := read_f hlx hr
  have hj : j < ts.length := ((bP (Xh hlx).1 hat 70000 (by omega) (by omega) (Xh hlx).2).2 ns j hpj).1
  have hok1 : Rh v ns := ⟨hi, fun n hn => (hnf n hn).mono (by omega), by omega⟩
  generalize hTT : laid (Te which) 0 ts = TT at h9 hTl
  by_cases hbig : 4000 < TT.length
  ·have hd : decide ((TT.length : Int) > 4000) = true := decide_eq_true (by omega)
   simp only [Br,A8,Bk,Bn,Bz,A7,Fk,Cc,Gr,Bl,A9,Bq,B9,Bp,C6,A4,Bd,Bc,A0,Bm,B0,ofOpt,Be,B5,Dm,Nat.reduceLT,Nat.reduceEqDiff,Aa,Ab,Ac,Aj,Ak,Am,aN,h9,olen9,hd,hf1]
   exact ⟨_, _, rfl, by simp only [A0,Nat.reduceEqDiff,Ab,Aa]⟩
  ·have hd : decide ((TT.length : Int) > 4000) = false := decide_eq_false (by omega)
   simp only [Br,A8,Bk,Bn,Bz,A7,Fk,Cc,Gr,Bl,A9,Bq,B9,Bp,Dk,A4,Bd,Bc,A0,Bm,B0,ofOpt,Be,B5,Dm,Nat.reduceLT,Nat.reduceEqDiff,Aa,Ab,Ac,Aj,Ak,Am,aN,h9,olen9,hd,hf1]
   refine i7_19 _ _ _ ?_
   obtain ⟨us, hu1, hu2⟩ := nJ hlx (f := Te which) (iN which) (by rw [hTT]; omega)
   rw [hTT] at hu1
   obtain ⟨m, hm1, hm2⟩ := tR hu2 hr
   have hpc2 : Mw [.v (.string ⟨⟨TT⟩⟩)] S' = Mw [Cl TT] S' := rfl
   rw [hpc2]
   rcases qL (l := TT) (by omega) hu1 S' with ⟨ns2, v2, hr2, hp2, hi2⟩ | ⟨y, hr2, hp2⟩
   ·rw [hp2]
    have he : ns2 = m := by rw [hm1] at hr2; injection hr2 with hr2; injection hr2 with hr2; exact hr2.symm
    subst he
    have hok2 : Rh v2 ns2 := ⟨hi2, fun n hn => by
     obtain ⟨a, ha, hl⟩ := hm2.mem n hn
     exact uH hl (hok1.2.1 a ha), by rw [← hm2.len]; exact hok1.2.2⟩
    have q5 := R6 (Dq S' (Dv 0 0)) rfl (rfl : (Dv 0 0).length = 2)
    have q6 := Jq (S'.newBox (Dv 0 0)) S'.next (Dv 0 0) rfl
    generalize hS3 : (S'.newBox (Dv 0 0)).put S'.next (Dv 0 0) = S3 at q5 q6
    simp only [A8,Bk,A7,Bl,A9,Bq,Gi,B9,Gw,Bp,C8,A4,Bd,Bc,A0,Bm,B0,ofOpt,ofOptS,Bt,Nat.reduceLT,Nat.reduceEqDiff,Aa,Ab,Ac,Af,Ag,Ah,Ai,Aj,Ak,Al,Am,aN,e7_G,nn33,fbe33,q5,q6,hf2,Ux,bd33,B7,eq7ez]
    refine i7_20 hok2 _ _ ?_
    simp only [A9,Bq,B9,Bp,C8,A4,Bd,Bc,A0,Bm,B0,ofOpt,Nat.reduceLT,Nat.reduceEqDiff,Aa,Ab,Ac,Af,Ag,Ah,Ai,Aj,Ak,Al,h5,hf2]
    refine i7_20 hok1 _ _ ?_
    rw [← mV hm2]
    simp only [Bz,A7,Bl,A9,Bq,Bp,C8,A4,Bd,Bc,A0,ofOpt,Nat.reduceLT,Nat.reduceEqDiff,Aa,Ab,Ac,Af,Ag,Ah,Ai,Al,Am,Dd,aN,fb_self]
    exact ⟨_, _, rfl, by simp only [A0,Nat.reduceEqDiff,Ab,Aa]⟩
   ·rw [hm1] at hr2; injection hr2 with hr2; cases hr2
 ·rw [hp]
  have hy := tS hr (fun x hx => jT (by rw [hlx, hx]))
  have q1 := R6 (Dq S (Dv 0 0)) rfl (rfl : (Dv y.1 y.2).length = 2)
  have q2 := Jq (S.newBox (Dv 0 0)) S.next (Dv y.1 y.2) rfl
  generalize hS1 : (S.newBox (Dv 0 0)).put S.next (Dv y.1 y.2) = S1 at q1 q2
  have e33 := fun f S o => eq7n f S o y.1 y.2
  have hb : (!(((y.1 : Nat) : Int) == 0 && (((y.2 : Nat) : Int) == 0 && true))) = true := by
   have : (((y.2 : Nat) : Int) == 0) = false := by rw [beq_eq_false_iff_ne]; omega
   rw [this]; simp
  rw [hb] at e33
  have e00 : (((0 : Nat) : Int) == 0) = true := rfl
  have e0 : ((0 : Int) == 0) = true := rfl
  simp only [Br,A8,Bk,Bn,Bz,A7,Cc,Bl,A9,Bq,Gi,B9,Gw,Bp,C8,C6,A4,Bd,Bc,A0,Bm,B0,ofOpt,ofOptS,Be,Bt,B5,Ci,Nat.reduceLT,Nat.reduceEqDiff,Aa,Ab,Ac,Ag,Ah,Aj,Ak,Am,aN,e7_G,nn33,fb33,h0,q1,q2,e33,len40n,e00,hf3,Ux,bd33,B7]
  exact ⟨_, _, rfl, by simp only [A0,Nat.reduceEqDiff,Ab,Aa]⟩
end Go.Ax
noncomputable section
namespace Go.Ax
open Go.RowKit Go.Proofs
set_option maxRecDepth 100000
def puI0 (args : List AV) : Option AV := match args with
 | [.v (.string s), .v (.int .i64 10), .v (.int .i64 64)] => if s.data.toList ≠ [] ∧ s.data.toList.all Rl = true ∧ Hw 0 s.data.toList < 18446744073709551616 ∧ s.size ≤ 9223372036854775806 then some (.tup [.v (.int .u64 (Hw 0 s.data.toList)), .v .nilIface]) else none
 | _ => none
def E0 : Env := { P := Tryz.prog, G := fun _ => none, F := E1.F, I := fun k => Bool.rec (Bool.rec none (some (Py 6)) (Nat.beq k 94)) (some (Fp puI0)) (Nat.beq k 133), M := xE }
theorem e0_ok : E0.Ok := ⟨fun k fn h => Rw.fn k fn h⟩
theorem e0_mix : E0.P.follows .mixedOrders = true := Si
theorem puI0_ok : ∀ args a, puI0 args = some a → ∀ γ w (vs : List Value), VRL γ w args vs → Calls Tryz.prog 133 vs.toArray w fun e w' => Below w.heap.size w w' ∧ ∃ v, e = .returned v ∧ ∀ γ w, VR γ w a v := by
 intro args a h γ w vs hv
 unfold puI0 at h
 split at h
 ·rename_i s
  split at h
  ·rename_i hc
   obtain ⟨h0, h1, h2, h3⟩ := hc
   injection h with h; subst h
   obtain ⟨x, y, z, rfl, hx, hy, hz⟩ := hv.three
   cases hx; cases hy; cases hz
   refine (Tryz.strconv_ParseUint_10_at64_ok s h3 _ (jI h0 h1 h2) w).mono fun e w' he => ⟨?_, _, he.1, fun γ w => ?_⟩
   ·rcases he.2 with rfl | rfl
    ·exact .refl _ _
    ·exact Lib.bytesWorld_below _ _ _
   ·exact .tup _ _ rfl (fun k hk hk' => by
     match k, hk with
     | 0, _ => exact .v _ rfl
     | 1, _ => exact .v _ rfl)
  ·cases h
 ·cases h
theorem e0_intr : Jd E0 := fun k g hk base w0 args S hne γ w vs hS hg hv => by
 have hk2 : (Bool.rec (Bool.rec none (some (Py 6)) (Nat.beq k 94)) (some (Fp puI0)) (Nat.beq k 133) : Option (List AV → St → R)) = some g := hk
 cases hb : Nat.beq k 133 with
 | false =>
  rw [hb] at hk2
  cases hc : Nat.beq k 94 with
  | false => rw [hc] at hk2; cases hk2
  | true =>
   rw [hc] at hk2
   injection hk2 with hk2; subst hk2
   have : k = 94 := Nat.eq_of_beq_eq_true hc
   subst this
   exact zI base w0 args S hne γ w vs hS hv
 | true =>
  rw [hb] at hk2
  injection hk2 with hk2; subst hk2
  have : k = 133 := Nat.eq_of_beq_eq_true hb
  subst this
  exact uB (P := Tryz.prog) (k := 133) puI0_ok base w0 args S hne γ w vs hS hv
theorem xQ (w : World) : Calls Tryz.prog 12 #[] w fun e w' => e = .returned (.bool true) ∧ Below w.heap.size w w' :=
 lG (E := E0) e0_ok e0_intr e0_mix rfl (m := 2000) (k := 12) (args := []) (by kernel_rfl) (by kernel_rfl) (vs := []) ⟨rfl, fun k hk => by cases hk⟩
end Go.Ax
noncomputable section
namespace Go.Ax
open Go.RowKit Go.Proofs
set_option maxRecDepth 100000
def lD (s : ByteArray) : ByteArray := if 600 < s.size then s.extract 0 600 else s
theorem vO (s : ByteArray) : (lD s).size ≤ 600 := by
 unfold lD; split
 ·rw [ByteArray.size_extract]; omega
 ·omega
set_option maxHeartbeats 400000 in
theorem cutB_any (s : ByteArray) (w : World) (hs : s.size ≤ 9223372036854775807) :
  Calls Tryz.prog 18 #[.string s, .int .i64 600] w fun e w' => e = .returned (.string (lD s)) ∧ w = w' := by
 by_cases h : (600 : Int) < s.size
 ·have H := Lib.hid (show lD s = s.extract 0 600 by unfold lD; rw [if_pos (by omega)])
  go_enter Tryz.func18, Tryz.ntmps18
  go_wp2
  go_ret
  rw [H.out]; exact ⟨rfl, rfl⟩
 ·have H := Lib.hid (show lD s = s by unfold lD; rw [if_neg (by omega)])
  go_enter Tryz.func18, Tryz.ntmps18
  go_wp2
  go_ret
  rw [H.out]; exact ⟨rfl, rfl⟩
def PowIn (w : World) : Prop := Lib.TabIs Tryz.prog w "internal/strconv.uint64pow10" .u64 Lib.pow10Tab
theorem PowIn.gr {w : World} (h : PowIn w) : GR (GhW w) w gF := by
 unfold PowIn Lib.TabIs World.var? at h
 rw [gPow6] at h
 simp only [Ai] at h
 split at h
 ·rename_i arr T fr ha
  injection h with h
  have hsz : arr.size = 20 := by rw [h]; simp [Lib.pow10Tab_length]
  intro g cs hg
  unfold gF at hg
  cases hb : Nat.beq g 0 with
  | false => rw [hb] at hg; cases hg
  | true =>
   have : g = 0 := Nat.eq_of_beq_eq_true hb
   subst this
   rw [hb] at hg
   injection hg with hg; subst hg
   have hcell : ∀ k, k < Rj.length → w.cell? ⟨0, 0 + k, none⟩ = some (arr.getD k undef) := fun k hk => by
    rw [Og] at hk
    rw [Nat.zero_add, I9 ha, Array.getElem?_eq_getElem (by omega)]
    simp [Array.getD, show k < arr.size by omega]
   refine ⟨.ep Rj 0 0 (fun k => arr.getD k undef) (fun k hk => ⟨⟨World.block_lt_of_cell? w _ (hcell k hk), _, hcell k hk⟩, hcell k hk⟩) (fun x hx => ?_) (fun k hk => ?_), fun _ => ⟨arr, T, fr, ha, by rw [hsz, Og]⟩⟩
   ·unfold Rj at hx
    obtain ⟨z, _, rfl⟩ := List.mem_map.1 hx
    rfl
   ·have hk2 := hk
    rw [Og] at hk2
    have e : arr.getD k undef = .int .u64 (Lib.pow10Tab[k]'(by rw [Lib.pow10Tab_length]; omega)) := by
     rw [h]
     simp [Array.getD, Lib.pow10Tab_length, hk2]
    have e3 : Rj[k] = .v (.int .u64 (Lib.pow10Tab[k]'(by rw [Lib.pow10Tab_length]; omega))) := by simp [Rj]
    rw [e]
    have key : ∀ a : AV, a = .v (.int .u64 (Lib.pow10Tab[k]'(by rw [Lib.pow10Tab_length]; omega))) → VR (GhW w) w a (.int .u64 (Lib.pow10Tab[k]'(by rw [Lib.pow10Tab_length]; omega))) := fun a h => h ▸ .v _ rfl
    exact key _ e3
 ·cases h
theorem g7_of {w : World} (h1 : RngIn w) (h2 : PowIn w) : GR (GhW w) w G7 := by
 intro g cs hg
 have hg' := hg
 unfold G7 at hg
 cases hb : Nat.beq g 0 with
 | true =>
  have : g = 0 := Nat.eq_of_beq_eq_true hb
  subst this
  exact h2.gr 0 cs hg'
 | false =>
  rw [hb] at hg
  exact h1.gr g cs hg
theorem u9b : Tryz.prog.underlying 9 = some .string := by kernel_rfl
theorem pb_any (s0 : ByteArray) (which : Int) (w : World) (hs0 : s0.size ≤ 9223372036854775807) (hr : RngIn w) (hp : PowIn w) : Calls Tryz.prog 6 #[.string s0, .int .i64 which] w fun x w' => x = .returned (.bool true) ∧ Below w.heap.size w w' := by
 have HG := Lib.hid (g7_of hr hp); clear hr hp
 have hs := vO s0
 go_enter Tryz.func6, Tryz.ntmps6
 refine wp_seq_k fun K0 h0 => ?_
 have H0 := Lib.hid h0; clear h0
 go_wp2_with fail
 refine H0.out _ _ ?_
 clear H0 K0
 refine wp_seq_k fun K1 h1 => ?_
 have H1 := Lib.hid h1; clear h1
 go_wp2_with fail
 refine (cutB_any s0 _ hs0).mono ?_
 rintro x w' ⟨rfl, rfl⟩
 generalize lD s0 = s at *
 go_wp2_with fail
 refine H1.out _ _ ?_
 clear H1 K1
 refine wp_seq_k fun K2 h2 => ?_
 have H2 := Lib.hid h2; clear h2
 go_wp2_with fail
 refine (xQ _).mono ?_
 rintro x w1 ⟨rfl, hb1⟩
 go_wp2_with fail
 refine H2.out _ _ ?_
 clear H2 K2
 obtain ⟨out, ho⟩ := uQ s.data.toList
 have hl : s.data.toList.length ≤ 600 := by rw [Array.length_toList]; exact hs
 have hg : GR (GhW w1) w1 G7 := HG.out.mono (Ub hb1)
 have hW := pb_rest s.data.toList hl out ho which St0 ((T.leaf.set 0 (some (.v (.string ⟨⟨s.data.toList⟩⟩)))).set 1 (some (.v (.int .i64 which)))) (by rw [T.get_set, if_neg (by decide), T.get_set, if_pos rfl]) (by rw [T.get_set, if_pos rfl])
 refine codeWG (c := mY) (E := E7) e7_ok e7_intr e7_mix (t := 4) hW (SR.whole w1) hg ?_ rfl rfl ?_
 ·intro t a h
  rw [T.get_set, T.get_set] at h
  split at h
  ·rename_i e; subst e
   injection h with h; subst h
   exact ⟨(show 1 < 73 by decide), .v _ rfl⟩
  ·split at h
   ·rename_i e; subst e
    injection h with h; subst h
    exact ⟨(show 0 < 73 by decide), .v _ rfl⟩
   ·cases h
 intro act' w' hsz hd ht hb2
 refine ⟨hd, .bool true, ?_, rfl, hb1.trans (hb2.mono hb1.size)⟩
 have h4 : act'.tmps.getD 4 undef = .bool true := by simp [Array.getD_eq_getD_getElem?, ht]
 simp [results, Tryz.f6, h4, go_sem, ht]
end Go.Ax
