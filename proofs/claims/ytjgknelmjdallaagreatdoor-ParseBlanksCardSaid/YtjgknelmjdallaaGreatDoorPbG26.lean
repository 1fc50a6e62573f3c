/- Rf -/
import Derived.Test.YtjgknelmjdallaaGreatDoorPbG22
import Derived.Test.YtjgknelmjdallaaGreatDoorPbG25
import Derived.Test.YtjgknelmjdallaaGreatDoorPbG24
import Derived.Test.YtjgknelmjdallaaGreatDoorPbG12
import Derived.Test.YtjgknelmjdallaaGreatDoorPbG20
import Derived.Test.YtjgknelmjdallaaGreatDoorPbG21
import Derived.ProofKit
import Derived.Lib.Hide
import Derived.Laws.BitsLemmas
import Derived.IntWalk
import Derived.Laws.Unary
set_option linter.unusedVariables false
set_option linter.unusedSimpArgs false
noncomputable section
namespace Go.Ax
open Go.RowKit Go.Proofs
set_option maxRecDepth 100000
def OkR {α : Type} (Q : α → Nat → Prop) (x : PR α) : Prop := ∀ a j, x = .ok a j → Q a j
section
variable {α β : Type}
theorem OkR.ok {Q : α → Nat → Prop} {a : α} {j : Nat} (h : Q a j) : OkR Q (.ok a j) := fun a' j' e => by injection e with e1 e2; subst e1; subst e2; exact h
theorem OkR.bad {Q : α → Nat → Prop} {a e : Nat} : OkR Q (.bad a e : PR α) := fun a' j' e => by cases e
theorem OkR.out {Q : α → Nat → Prop} : OkR Q (.out : PR α) := fun a' j' e => by cases e
theorem OkR.bind {Q : α → Nat → Prop} {R : β → Nat → Prop} {x : PR α} {f : α → Nat → PR β} (h : OkR Q x) (hf : ∀ a j, Q a j → OkR R (f a j)) : OkR R (x.bind f) := by
 cases x with
 | ok a j => exact hf a j (h a j rfl)
 | bad a e => exact .bad
 | out => exact .out
theorem OkR.ite {Q : α → Nat → Prop} {c : Prop} [Decidable c] {x y : PR α} (h1 : c → OkR Q x) (h2 : ¬ c → OkR Q y) : OkR Q (if c then x else y) := by
 by_cases h : c
 ·rw [if_pos h]; exact h1 h
 ·rw [if_neg h]; exact h2 h
end
def V6 (i : Nat) (e : PE) (j : Nat) : Prop := Fit e ∧ F8 e + i ≤ j
theorem pO (x : Int) : -9223372036854775808 ≤ IntKind.i64.wrap x ∧ IntKind.i64.wrap x ≤ 9223372036854775807 := by
 unfold IntKind.wrap
 constructor <;> (simp [IntKind.bits, IntKind.signed]; try omega)
def pK (ts : List Tk) : Prop := ∀ i, (tk ts i).kind = 1 → (tk ts i).text.length ≤ 30
theorem pZ (kind pos : Nat) (n : Int) (name : List UInt8) (off : Bool) (x : PE) : F8 (.mk kind pos n name off [x]) = 1 + F8 x := by rw [I2, F4, J6]; rfl
theorem pX (kind pos : Nat) (n : Int) (name : List UInt8) (off : Bool) (x y : PE) : F8 (.mk kind pos n name off [x, y]) = 1 + (F8 x + F8 y) := by rw [I2, F4, F4, J6]; rfl
theorem size3 (kind pos : Nat) (n : Int) (name : List UInt8) (off : Bool) (x y z : PE) : F8 (.mk kind pos n name off [x, y, z]) = 1 + (F8 x + (F8 y + F8 z)) := by rw [I2, F4, F4, F4, J6]; rfl
theorem iL (kind pos : Nat) (n : Int) (name : List UInt8) (off : Bool) : F8 (.mk kind pos n name off []) = 1 := by rw [I2, J6]
theorem in0 : (-9223372036854775808 : Int) ≤ 0 ∧ (0 : Int) ≤ 9223372036854775807 := by decide
theorem fit0 (kind pos : Nat) {n : Int} {name : List UInt8} (off : Bool) (hn : -9223372036854775808 ≤ n ∧ n ≤ 9223372036854775807) (hm : name.length ≤ 30) : Fit (.mk kind pos n name off []) := .mk _ _ _ _ _ _ hn hm (fun e h => by cases h)
theorem fit1 (kind pos : Nat) {n : Int} {name : List UInt8} (off : Bool) {x : PE} (hn : -9223372036854775808 ≤ n ∧ n ≤ 9223372036854775807) (hm : name.length ≤ 30) (hx : Fit x) : Fit (.mk kind pos n name off [x]) := .mk _ _ _ _ _ _ hn hm (fun e h => by simp at h; subst h; exact hx)
theorem fit2 (kind pos : Nat) {n : Int} {name : List UInt8} (off : Bool) {x y : PE} (hn : -9223372036854775808 ≤ n ∧ n ≤ 9223372036854775807) (hm : name.length ≤ 30) (hx : Fit x) (hy : Fit y) : Fit (.mk kind pos n name off [x, y]) := .mk _ _ _ _ _ _ hn hm (fun e h => by simp at h; rcases h with rfl | rfl <;> assumption)
theorem fit3 (kind pos : Nat) {n : Int} {name : List UInt8} (off : Bool) {x y z : PE} (hn : -9223372036854775808 ≤ n ∧ n ≤ 9223372036854775807) (hm : name.length ≤ 30) (hx : Fit x) (hy : Fit y) (hz : Fit z) : Fit (.mk kind pos n name off [x, y, z]) := .mk _ _ _ _ _ _ hn hm (fun e h => by simp at h; rcases h with rfl | rfl | rfl <;> assumption)
section
variable {ts : List Tk} (hts : pK ts)
include hts
omit hts in
theorem Hf (ws : List (List UInt8)) (i : Nat) : OkR (fun t j => t = tk ts i ∧ j = i + 1 ∧ (tk ts i).text ∈ ws) (Dr ts ws i) := by
 unfold Dr
 exact OkR.ite (fun h => .ok ⟨rfl, rfl, h⟩) (fun _ => .bad)
omit hts in
theorem Ph (k i : Nat) : OkR (fun t j => t = tk ts i ∧ j = i + 1 ∧ (tk ts i).kind = k) (Ft ts k i) := by
 unfold Ft
 exact OkR.ite (fun h => .ok ⟨rfl, rfl, h⟩) (fun _ => .bad)
theorem sM (i : Nat) : OkR (fun c j => c.1.length ≤ 30 ∧ i < j) (Iq ts i) := by
 unfold Iq
 refine OkR.ite (fun _ => ?_) (fun _ => ?_)
 ·exact (Ph 1 (i + 1)).bind fun a j e => .ok ⟨by rw [e.1]; exact hts _ e.2.2, by omega⟩
 ·exact (Ph 1 i).bind fun a j e => .ok ⟨by rw [e.1]; exact hts _ e.2.2, by omega⟩
omit hts in
theorem xZ (i : Nat) : OkR (V6 i) (Md ts i) := by
 unfold Md
 split
 ·exact .out
 ·refine OkR.ite (fun _ => ?_) (fun _ => ?_)
  ·split
   ·exact .out
   ·exact OkR.ite (fun _ => .ok ⟨fit0 _ _ _ (pO _) (by simp), by rw [iL]; omega⟩) (fun _ => .bad)
  ·exact OkR.ite (fun _ => OkR.ite (fun _ => .bad) (fun _ => .ok ⟨fit0 _ _ _ (pO _) (by simp), by rw [iL]; omega⟩)) (fun _ => .bad)
omit hts in
theorem iV (ws : List (List UInt8)) (hws : ∀ w ∈ ws, w.length ≤ 30) {kid : Nat → PR PE} (hk : ∀ i, OkR (V6 i) (kid i)) : ∀ (n : Nat) (x : PE) (i k : Nat), V6 k x i → OkR (V6 k) (Ju ts ws kid n x i)
 | 0, _, _, _, _ => .out
 | n + 1, x, i, k, hx => by
  unfold Ju
  refine OkR.ite (fun hm => (hk (i + 1)).bind fun y j e => ?_) (fun _ => .ok hx)
  exact iV ws hws hk n _ j k ⟨fit2 _ _ _ in0 (hws _ hm) hx.1 e.1, by rw [pX]; have := hx.2; have := e.2; omega⟩
theorem wF : ∀ (n : Nat) (x : PE) (i k : Nat), V6 k x i → OkR (V6 k) (Ka ts n x i)
 | 0, _, _, _, _ => .out
 | n + 1, x, i, k, hx => by
  unfold Ka
  refine OkR.ite (fun hm => (sM hts (i + 1)).bind fun c j e => ?_) (fun _ => .ok hx)
  exact wF n _ j k ⟨fit1 _ _ _ in0 e.1 hx.1, by rw [pZ]; have := hx.2; have := e.2; omega⟩
def FitL (i : Nat) (l : List PE) (j : Nat) : Prop := (∀ e ∈ l, Fit e) ∧ F8.sizeL l + i ≤ j
omit hts in
theorem Yb : ∀ (l : List PE) (e : PE), F8.sizeL (l ++ [e]) = F8.sizeL l + F8 e
 | [], e => by rw [List.nil_append, F4, J6]; omega
 | a :: r, e => by rw [List.cons_append, F4, F4, Yb r e]; omega
omit hts in
theorem mR {kid : Nat → PR PE} (hk : ∀ i, OkR (V6 i) (kid i)) : ∀ (n : Nat) (l : List PE) (i k : Nat), FitL k l i → OkR (FitL k) (Hh ts kid n l i)
 | 0, _, _, _, _ => .out
 | n + 1, l, i, k, hl => by
  unfold Hh
  refine OkR.ite (fun hm => (hk (i + 1)).bind fun y j e => ?_) (fun _ => (Hf _ i).bind fun _ j e => .ok ⟨hl.1, by have := hl.2; have := e.2.1; omega⟩)
  exact mR hk n _ j k ⟨fun x hx => by simp at hx; rcases hx with h | rfl; exact hl.1 _ h; exact e.1, by rw [Yb]; have := hl.2; have := e.2; omega⟩
omit hts in
theorem kR {i k j : Nat} {x : PE} (h : V6 i x j) (hk : k ≤ i) : FitL k [x] j := ⟨fun e he => by simp at he; subst he; exact h.1, by rw [F4, J6]; have := h.2; omega⟩
omit hts in
theorem list_f {kid : Nat → PR PE} (hk : ∀ i, OkR (V6 i) (kid i)) (n i : Nat) : OkR (fun l j => FitL i l j ∧ i < j) (Lp ts kid n i) := by
 unfold Lp
 refine (Hf _ i).bind fun _ j e => ?_
 have e1 := e.2.1; subst e1
 refine OkR.ite (fun _ => .ok ⟨⟨fun e h => (by cases h), by rw [J6]; omega⟩, by omega⟩) (fun _ => (hk _).bind fun x m e2 => ?_)
 intro l j' hl
 have := mR hk n [x] m (i + 1) (kR e2 (Nat.le_refl _)) l j' hl
 exact ⟨⟨this.1, by have := this.2; omega⟩, by have := this.2; omega⟩
omit hts in
theorem pT (i : Nat) : V6 i (Lz (tk ts i)) (i + 1) := by
 unfold Lz
 refine ⟨fit0 _ _ _ ?_ (by simp), by rw [iL]; omega⟩
 split <;> decide
theorem P_f : ∀ (n : Nat) (nt : NT) (i : Nat), OkR (V6 i) (P ts n nt i)
 | 0, nt, i => by cases nt <;> exact .out
 | n + 1, .expr, i => by
  simp only [P]
  refine OkR.ite (fun _ => ?_) (fun _ => P_f n .arrow i)
  refine (P_f n .expr (i + 1)).bind fun a j e1 => (Hf _ j).bind fun _ j' e2 => (P_f n .expr j').bind fun b j2 e3 => (Hf _ j2).bind fun _ j3 e4 => (P_f n .expr j3).bind fun c j4 e5 => .ok ⟨fit3 _ _ _ in0 (by simp) e1.1 e3.1 e5.1, ?_⟩
  rw [size3]
  have := e1.2; have := e2.2.1; have := e3.2; have := e4.2.1; have := e5.2; omega
 | n + 1, .arrow, i => by
  simp only [P]
  refine (P_f n .or i).bind fun a j e1 => ?_
  have two : ∀ (k m : Nat) (b : PE), V6 (j + 1) b m → V6 i (.mk k (tk ts j).pos 0 [] false [a, b]) m := fun k m b e2 => ⟨fit2 _ _ _ in0 (by simp) e1.1 e2.1, by rw [pX]; have := e1.2; have := e2.2; omega⟩
  refine OkR.ite (fun _ => (P_f n .arrow (j + 1)).bind fun b m e2 => .ok (two _ _ _ e2)) (fun _ => ?_)
  refine OkR.ite (fun _ => .ok e1) (fun _ => ?_)
  exact OkR.ite (fun _ => (P_f n .arrow (j + 1)).bind fun b m e2 => .ok (two _ _ _ e2)) (fun _ => .ok e1)
 | n + 1, .or, i => by
  simp only [P]
  exact (P_f n .and i).bind fun a j e1 => iV _ (by decide) (P_f n .and) n _ _ _ e1
 | n + 1, .and, i => by
  simp only [P]
  exact (P_f n .not i).bind fun a j e1 => iV _ (by decide) (P_f n .not) n _ _ _ e1
 | n + 1, .not, i => by
  simp only [P]
  refine OkR.ite (fun _ => (P_f n .not (i + 1)).bind fun a j e1 => .ok ⟨fit1 _ _ _ in0 (by simp) e1.1, by rw [pZ]; have := e1.2; omega⟩) (fun _ => ?_)
  refine (P_f n .sum i).bind fun a j e1 => ?_
  refine OkR.ite (fun hm => (P_f n .sum (j + 1)).bind fun b m e2 => .ok ⟨fit2 _ _ _ in0 ?_ e1.1 e2.1, by rw [pX]; have := e1.2; have := e2.2; omega⟩) (fun _ => .ok e1)
  have h' : ∀ w ∈ ([[61], [60, 62], [60], [60, 61], [62], [62, 61]] : List (List UInt8)), w.length ≤ 30 := by decide
  exact h' _ hm
 | n + 1, .sum, i => by
  simp only [P]
  exact (P_f n .term i).bind fun a j e1 => iV _ (by decide) (P_f n .term) n _ _ _ e1
 | n + 1, .term, i => by
  simp only [P]
  exact (P_f n .unary i).bind fun a j e1 => iV _ (by decide) (P_f n .unary) n _ _ _ e1
 | n + 1, .unary, i => by
  simp only [P]
  refine OkR.ite (fun _ => (P_f n .unary (i + 1)).bind fun a j e1 => .ok ⟨fit1 _ _ _ in0 (by simp) e1.1, by rw [pZ]; have := e1.2; omega⟩) (fun _ => ?_)
  refine OkR.ite (fun _ => xZ i) (fun _ => ?_)
  exact OkR.ite (fun _ => (P_f n .unary (i + 1)).bind fun a j e1 => .ok ⟨fit1 _ _ _ in0 (by simp) e1.1, by rw [pZ]; have := e1.2; omega⟩) (fun _ => P_f n .when i)
 | n + 1, .when, i => by
  simp only [P]
  exact (P_f n .primary i).bind fun a j e1 => wF hts n _ _ _ e1
 | n + 1, .primary, i => by
  simp only [P]
  refine OkR.ite (fun _ => xZ i) (fun _ => ?_)
  refine OkR.ite (fun _ => P_f n .name i) (fun _ => ?_)
  refine OkR.ite (fun _ => .ok (pT i)) (fun _ => ?_)
  refine OkR.ite (fun _ => ?_) (fun _ => ?_)
  ·refine (Ph 1 (i + 1)).bind fun t j e => (P_f n .brk j).bind fun a j2 e1 => (P_f n .brk j2).bind fun b j3 e2 => .ok ⟨fit2 _ _ _ in0 (by rw [e.1]; exact hts _ e.2.2) e1.1 e2.1, ?_⟩
   rw [pX]; have := e.2.1; have := e1.2; have := e2.2; omega
  refine OkR.ite (fun _ => ?_) (fun _ => P_f n .brk i)
  refine (Ph 1 (i + 1)).bind fun t j e => ?_
  refine OkR.ite (fun _ => ?_) (fun _ => .ok ⟨fit0 _ _ _ in0 (by rw [e.1]; exact hts _ e.2.2), by rw [iL]; have := e.2.1; omega⟩)
  refine (Hf _ (j + 1)).bind fun _ j' e2 => (P_f n .lit j').bind fun a m e1 => ?_
  refine (mR (P_f n .lit) n [a] m j' (kR e1 (Nat.le_refl _))).bind fun l m e3 => .ok ⟨.mk _ _ _ _ _ _ in0 (by rw [e.1]; exact hts _ e.2.2) e3.1, ?_⟩
  rw [I2]; have := e.2.1; have := e2.2.1; have := e3.2; omega
 | n + 1, .name, i => by
  simp only [P]
  exact OkR.ite (fun _ => P_f n .call i) (fun _ => (Ph 1 i).bind fun t j e => .ok ⟨fit0 _ _ _ in0 (by rw [e.1]; exact hts _ e.2.2), by rw [iL]; have := e.2.1; omega⟩)
 | n + 1, .call, i => by
  simp only [P]
  refine (Ph 1 i).bind fun t j e => (list_f (P_f n .expr) n j).bind fun l m e2 => .ok ⟨.mk _ _ _ _ _ _ in0 (by rw [e.1]; exact hts _ e.2.2) e2.1.1, ?_⟩
  rw [I2]; have := e.2.1; have := e2.1.2; omega
 | n + 1, .brk, i => by
  simp only [P]
  refine (Hf _ i).bind fun _ j e0 => (P_f n .expr j).bind fun a j2 e1 => (Hf _ j2).bind fun _ j3 e2 => .ok ⟨e1.1, ?_⟩
  have := e0.2.1; have := e1.2; have := e2.2.1; omega
 | n + 1, .lit, i => by
  simp only [P]
  exact OkR.ite (fun _ => .ok (pT i)) (fun _ => xZ i)
end
end Go.Ax
noncomputable section
namespace Go.Ax
open Go.RowKit Go.Proofs
set_option maxRecDepth 100000
def Mb {α : Type} (G : α → Prop) (k : Nat) (l : List α) (j : Nat) : Prop := (∀ x ∈ l, G x) ∧ l.length + k ≤ j
theorem Mb.snoc {α : Type} {G : α → Prop} {k i j : Nat} {l : List α} {a : α} (h : Mb G k l i) (ha : G a) (hij : i < j) : Mb G k (l ++ [a]) j :=
 ⟨fun x hx => by simp at hx; rcases hx with hx | rfl; exact h.1 _ hx; exact ha, by have := h.2; simp; omega⟩
theorem Mb.one {α : Type} {G : α → Prop} {k j : Nat} {a : α} (ha : G a) (hij : k < j) : Mb G k [a] j := ⟨fun x hx => by simp at hx; subst hx; exact ha, by simp; omega⟩
def lQ (j : Nat) (q : PQ) : Prop := q.left.length ≤ j ∧ (∀ x ∈ q.left, x.1.length ≤ 30) ∧ Fit q.e ∧ F8 q.e ≤ j
theorem lQ.mono {i j : Nat} {q : PQ} (h : lQ i q) (hij : i ≤ j) : lQ j q := ⟨Nat.le_trans h.1 hij, h.2.1, h.2.2.1, Nat.le_trans h.2.2.2 hij⟩
def V4 (j : Nat) (n : PN) : Prop := (n.ins.length ≤ j ∧ ∀ x ∈ n.ins, Ps x) ∧ (n.outs.length ≤ j ∧ ∀ x ∈ n.outs, Ps x) ∧ (n.vars.length ≤ j ∧ ∀ x ∈ n.vars, Ps x) ∧ n.eqs.length ≤ j ∧ (∀ q ∈ n.eqs, lQ j q) ∧ n.name.length ≤ 30
theorem V4.mono {i j : Nat} {n : PN} (h : V4 i n) (hij : i ≤ j) : V4 j n := ⟨⟨Nat.le_trans h.1.1 hij, h.1.2⟩, ⟨Nat.le_trans h.2.1.1 hij, h.2.1.2⟩, ⟨Nat.le_trans h.2.2.1.1 hij, h.2.2.1.2⟩, Nat.le_trans h.2.2.2.1 hij, fun q hq => (h.2.2.2.2.1 q hq).mono hij, h.2.2.2.2.2⟩
section
variable {ts : List Tk} (hts : pK ts)
include hts
theorem oY (i : Nat) : OkR (fun d j => Ps d ∧ i < j) (Iz ts i) := by
 unfold Iz
 refine (Ph 1 i).bind fun t j e => (Hf _ j).bind fun _ j2 e2 => ?_
 have hn : t.text.length ≤ 30 := by rw [e.1]; exact hts _ e.2.2
 refine OkR.ite (fun _ => ?_) (fun _ => ?_)
 ·exact (Hf _ (j2 + 1)).bind fun a m e3 => .ok ⟨⟨hn, by simp⟩, by have := e.2.1; have := e2.2.1; have := e3.2.1; omega⟩
 ·exact (Hf _ j2).bind fun a m e3 => .ok ⟨⟨hn, by simp⟩, by have := e.2.1; have := e2.2.1; have := e3.2.1; omega⟩
theorem dH (i : Nat) : OkR (fun d j => Ps d ∧ i < j) (Fw ts i) := by
 unfold Fw
 refine (oY hts i).bind fun a j e => ?_
 refine OkR.ite (fun _ => ?_) (fun _ => ?_)
 ·exact (sM hts (j + 1)).bind fun c j2 e2 => (Hf _ j2).bind fun _ j3 e3 => .ok ⟨⟨e.1.1, e2.1⟩, by have := e.2; have := e2.2; have := e3.2.1; omega⟩
 ·exact (Hf _ j).bind fun _ j3 e3 => .ok ⟨e.1, by have := e.2; have := e3.2.1; omega⟩
theorem fU (i : Nat) : OkR (fun x j => x.1.length ≤ 30 ∧ i < j) (Hu ts i) := by
 unfold Hu
 exact (Ph 1 i).bind fun t j e => .ok ⟨by rw [e.1]; exact hts _ e.2.2, by have := e.2.1; omega⟩
omit hts in
theorem fF {α : Type} {G : α → Prop} {kid : Nat → PR α} (hk : ∀ i, OkR (fun a j => G a ∧ i < j) (kid i)) : ∀ (n : Nat) (l : List α) (i k : Nat), Mb G k l i → OkR (fun l j => Mb G k l j ∧ i < j) (Hd ts kid n l i)
 | 0, _, _, _, _ => .out
 | n + 1, l, i, k, hl => by
  unfold Hd
  refine OkR.ite (fun _ => (hk (i + 1)).bind fun a j e => ?_) (fun _ => (Hf _ i).bind fun _ j e => .ok ⟨⟨hl.1, by have := hl.2; have := e.2.1; omega⟩, by have := e.2.1; omega⟩)
  intro l' j' h'
  have := fF hk n _ j k (hl.snoc e.1 (by have := e.2; omega)) l' j' h'
  exact ⟨this.1, by have := this.2; have := e.2; omega⟩
omit hts in
theorem rD {α : Type} {G : α → Prop} {kid : Nat → PR α} (hk : ∀ i, OkR (fun a j => G a ∧ i < j) (kid i)) (n i : Nat) : OkR (fun l j => Mb G i l j ∧ i < j) (Kw ts kid n i) := by
 unfold Kw
 refine (Hf _ i).bind fun _ j e => ?_
 refine OkR.ite (fun _ => .ok ⟨⟨fun x h => (by cases h), by have := e.2.1; simp; omega⟩, by have := e.2.1; omega⟩) (fun _ => (hk j).bind fun a m e2 => ?_)
 intro l' j' h'
 have := fF hk n [a] m i (Mb.one e2.1 (by have := e2.2; have := e.2.1; omega)) l' j' h'
 exact ⟨this.1, by have := this.2; have := e2.2; have := e.2.1; omega⟩
theorem wJ : ∀ (n : Nat) (l : List PD) (i k : Nat), Mb Ps k l i → OkR (fun l j => Mb Ps k l j ∧ i ≤ j) (Kb ts n l i)
 | 0, _, _, _, _ => .out
 | n + 1, l, i, k, hl => by
  unfold Kb
  refine OkR.ite (fun _ => (dH hts i).bind fun a j e => ?_) (fun _ => .ok ⟨hl, Nat.le_refl _⟩)
  intro l' j' h'
  have := wJ n _ j k (hl.snoc e.1 e.2) l' j' h'
  exact ⟨this.1, by have := this.2; have := e.2; omega⟩
theorem lefts_f (n i : Nat) : OkR (fun l j => Mb (fun x : List UInt8 × Nat => x.1.length ≤ 30) i l j ∧ i < j) (J0 ts n i) := by
 unfold J0
 refine OkR.ite (fun _ => (fU hts i).bind fun a j e => .ok ⟨.one e.1 e.2, e.2⟩) (fun _ => ?_)
 refine (Hf _ i).bind fun _ j e0 => (fU hts j).bind fun a j2 e1 => (Hf _ j2).bind fun _ j3 e2 => ?_
 have H : OkR (fun l j' => Mb (fun x : List UInt8 × Nat => x.1.length ≤ 30) j3 l j' ∧ j3 < j') ((Hu ts j3).bind fun y m => Hd ts (Hu ts) n [y] m) := by
  refine (fU hts j3).bind fun c m e3 => ?_
  intro l' j' h'
  have := fF (fU hts) n [c] m j3 (Mb.one e3.1 e3.2) l' j' h'
  exact ⟨this.1, by have := this.2; have := e3.2; omega⟩
 refine H.bind fun l m e3 => .ok ⟨⟨fun x hx => ?_, ?_⟩, ?_⟩
 ·simp at hx; rcases hx with rfl | hx; exact e1.1; exact e3.1.1 _ hx
 ·have := e3.1.2; have := e0.2.1; have := e1.2; have := e2.2.1; simp; omega
 ·have := e3.2; have := e0.2.1; have := e1.2; have := e2.2.1; omega
omit hts in
theorem bE {Q : PE → Nat → Prop} {kid : Nat → PR PE} {i : Nat} (hk : OkR Q (kid i)) : OkR Q (Fz kid i) := by
 unfold Fz
 exact hk.bind fun a j e => OkR.ite (fun _ => .bad) (fun _ => .ok e)
theorem eq_f (n i : Nat) : OkR (fun q j => lQ j q ∧ i < j) (eqP ts n i) := by
 unfold eqP
 refine (lefts_f hts n i).bind fun l j e1 => (Hf _ j).bind fun _ j2 e2 => ?_
 have h1 := e1.1.2; have h2 := e2.2.1
 refine OkR.ite (fun _ => ?_) (fun _ => ?_)
 ·refine (bE (P_f hts n .call (j2 + 1))).bind fun a m e3 => (Hf _ m).bind fun _ m2 e4 => ?_
  have h3 := e3.2; have h4 := e4.2.1
  refine .ok ⟨⟨?_, e1.1.1, e3.1, ?_⟩, ?_⟩
  ·show l.length ≤ m2; omega
  ·show F8 a ≤ m2; omega
  ·omega
 ·refine (bE (P_f hts n .expr j2)).bind fun a m e3 => (Hf _ m).bind fun _ m2 e4 => ?_
  have h3 := e3.2; have h4 := e4.2.1
  refine .ok ⟨⟨?_, e1.1.1, e3.1, ?_⟩, ?_⟩
  ·show l.length ≤ m2; omega
  ·show F8 a ≤ m2; omega
  ·omega
theorem eqs_f (N : Nat) : ∀ (n : Nat) (l : List PQ) (i k : Nat), (∀ q ∈ l, lQ i q) → l.length + k ≤ i → OkR (fun l j => (∀ q ∈ l, lQ j q) ∧ l.length + k ≤ j ∧ i ≤ j) (Rk ts N n l i)
 | 0, _, _, _, _, _ => .out
 | n + 1, l, i, k, hl, hk => by
  unfold Rk
  refine OkR.ite (fun _ => .ok ⟨hl, hk, Nat.le_refl _⟩) (fun _ => (eq_f hts N i).bind fun a j e => ?_)
  have hij := e.2
  intro l' j' h'
  have := eqs_f N n _ j k (fun q hq => by simp at hq; rcases hq with hq | rfl; exact (hl q hq).mono (by omega); exact e.1) (by simp; omega) l' j' h'
  exact ⟨this.1, this.2.1, by have := this.2.2; omega⟩
theorem varsQ_f (n i : Nat) : OkR (fun l j => Mb Ps i l j ∧ i ≤ j) (Pu ts n i) := by
 unfold Pu
 refine OkR.ite (fun _ => (dH hts (i + 1)).bind fun a m e => ?_) (fun _ => .ok ⟨⟨fun x h => (by cases h), by simp⟩, Nat.le_refl _⟩)
 intro l' j' h'
 have := wJ hts n [a] m i (Mb.one e.1 (by have := e.2; omega)) l' j' h'
 exact ⟨this.1, by have := this.2; have := e.2; omega⟩
theorem yD (n i : Nat) : OkR (fun x j => V4 j x ∧ i < j) (Kv ts n i) := by
 unfold Kv
 refine (Hf _ i).bind fun _ j0 e0 => (Ph 1 j0).bind fun t j1 e1 => (rD (oY hts) n j1).bind fun a j2 e2 => ?_
 refine (Hf _ j2).bind fun _ j3 e3 => (rD (oY hts) n j3).bind fun b j4 e4 => (varsQ_f hts n j4).bind fun c j5 e5 => ?_
 refine (Hf _ j5).bind fun _ j6 e6 => (eqs_f hts n n [] j6 j6 (fun q h => by cases h) (by simp)).bind fun d j7 e7 => (Hf _ j7).bind fun _ j8 e8 => ?_
 have h0 := e0.2.1; have h1 := e1.2.1; have h2 := e2.2; have h2' := e2.1.2; have h3 := e3.2.1; have h4 := e4.2; have h4' := e4.1.2; have h5 := e5.2; have h5' := e5.1.2; have h6 := e6.2.1; have h7 := e7.2.2; have h7' := e7.2.1; have h8 := e8.2.1
 refine .ok ⟨⟨⟨?_, e2.1.1⟩, ⟨?_, e4.1.1⟩, ⟨?_, e5.1.1⟩, ?_, fun q hq => (e7.1 q hq).mono (by omega), by show t.text.length ≤ 30; rw [e1.1]; exact hts _ e1.2.2⟩, by omega⟩
 ·show a.length ≤ j8; omega
 ·show b.length ≤ j8; omega
 ·show c.length ≤ j8; omega
 ·show d.length ≤ j8; omega
theorem xM (N : Nat) : ∀ (n : Nat) (l : List PN) (i k : Nat), (∀ x ∈ l, V4 i x) → l.length + k ≤ i → OkR (fun l j => (∀ x ∈ l, V4 j x) ∧ l.length + k ≤ j) (Ma ts N n l i)
 | 0, _, _, _, _, _ => .out
 | n + 1, l, i, k, hl, hk => by
  unfold Ma
  refine OkR.ite (fun _ => (yD hts N i).bind fun a j e => ?_) (fun _ => .ok ⟨hl, hk⟩)
  have hij := e.2
  exact xM N n _ j k (fun q hq => by simp at hq; rcases hq with hq | rfl; exact (hl q hq).mono (by omega); exact e.1) (by simp; omega)
theorem tX (n : Nat) : OkR (fun l j => (∀ x ∈ l, V4 j x) ∧ l.length ≤ j) (Fe ts n 0) := by
 unfold Fe
 refine (yD hts n 0).bind fun a j e => ?_
 have := xM hts n n [a] j 0 (fun q hq => by simp at hq; subst hq; exact e.1) (by simp; omega)
 exact fun l j' h' => by have := this l j' h'; exact ⟨this.1, by have := this.2; omega⟩
end
theorem uK {l : List UInt8} {i : Nat} {t : Tk} (h : G8 l i = some (t, 0)) : t.kind = 1 → t.text.length ≤ 30 := by
 intro hk
 cases l with
 | nil => cases h
 | cons b r =>
  unfold G8 at h
  simp only at h
  split at h
  ·injection h with h
   unfold L7 at h
   split at h
   ·injection h with h1 h2; subst h1; cases hk
   ·split at h
    ·injection h with h1 h2; cases h2
    ·rename_i h30
     injection h with h1 h2; subst h1
     show (List.take _ _).length ≤ 30
     rw [List.length_take]; omega
  ·split at h
   ·unfold Yy at h
    split at h
    ·injection h with h; injection h with h1 h2; cases h2
    ·split at h
     ·split at h
      ·injection h with h; injection h with h1 h2; cases h2
      ·injection h with h; injection h with h1 h2; subst h1; cases hk
     ·injection h with h; injection h with h1 h2; cases h2
   ·injection h with h
    unfold Nq at h
    split at h
    ·injection h with h1 h2; subst h1; cases hk
    ·injection h with h1 h2; cases h2
theorem cQ : ∀ {ts : List Tk}, FromLex ts → pK ts
 | _, .last t h => fun i hi => by
  cases i with
  | zero => show t.text.length ≤ 30; rw [h.2.1]; simp
  | succ i => show Cz.text.length ≤ 30; decide
 | _, .cons t r l a h hr => fun i hi => by
  cases i with
  | zero => exact uK h hi
  | succ i => exact cQ hr i hi
theorem read_f {l : List UInt8} {ts : List Tk} (h : Kk l = some (.inr ts)) {n : Nat} {ns : List PN} (hr : Ke n (.inr ts) = some (.inl ns)) : ∃ j, Fe ts n 0 = .ok ns j ∧ (∀ x ∈ ns, V4 j x) ∧ ns.length ≤ j := by
 have hf := tX (cQ (cG h)) n
 unfold Ke at hr
 simp only at hr
 cases hx : Fe ts n 0 with
 | out => rw [hx] at hr; cases hr
 | bad a e => rw [hx] at hr; injection hr with hr; cases hr
 | ok l2 j =>
  rw [hx] at hr
  simp only at hr
  split at hr
  ·injection hr with hr; injection hr with hr; subst hr
   exact ⟨j, rfl, hf _ _ hx⟩
  ·injection hr with hr; cases hr
end Go.Ax
noncomputable section
namespace Go.Ax
open Go.RowKit Go.Proofs
set_option maxRecDepth 100000
theorem mS {w : World} {a : AV} {l : List PD} (hr : Hn 6 F9 a l) {v : Value} (h : VR (GhW w) w a v) : RdD w w.heap.size v l := by
 obtain ⟨p, c, e⟩ := wH hr h
 exact ⟨p, c, e, a, h, hr⟩
theorem rdN_of {w : World} {v : AV} {l : List PN} (hp : L4 v l) {x : Value} (h : VR (GhW w) w v x) : RdN w w.heap.size 0 x (l.map Nn) := by
 obtain ⟨tok, off, es, rfl, hn⟩ := hp
 obtain ⟨hlen, hat⟩ := hn.at
 cases h with
 | sl _ _ _ _ b o cap c hsz hes h1 hc hr ht hf hcap hb =>
  obtain ⟨arr, T, fr, ha, _⟩ := hb
  have hbk : b < w.heap.size := (Array.getElem?_eq_some_iff.1 ha).1
  refine ⟨_, cap, by rw [List.length_map, hlen], .inr ⟨b, o, rfl, hbk, fun i hi => ?_⟩⟩
  rw [List.length_map] at hi
  obtain ⟨y, hy, hq⟩ := hat i hi
  simp only [List.getElem_map]
  generalize l[i] = Q at hq
  obtain ⟨a, a2, a3, a4, es4, rfl, d1, d2, d3, d4, d5⟩ := hq
  have at_ : ∀ k z, (AV.agg (Hm Q.name Q.pos a a2 a3 a4)).cells[k]? = some z → k < 6 → ∃ v, w.cell? ⟨b, o + i * 6 + k, none⟩ = some v ∧ VR (GhW w) w z v := fun k z hka hk8 => cellAt hes hc hr hy hk8 hka
  obtain ⟨v0, c0, r0⟩ := at_ 0 (Cl Q.name) rfl (by omega)
  obtain ⟨v1, c1, r1⟩ := at_ 1 (Dp Q.pos) rfl (by omega)
  obtain ⟨v2, c2, r2⟩ := at_ 2 a rfl (by omega)
  obtain ⟨v3, c3, r3⟩ := at_ 3 a2 rfl (by omega)
  obtain ⟨v4, c4, r4⟩ := at_ 4 a3 rfl (by omega)
  obtain ⟨v5, c5, r5⟩ := at_ 5 a4 rfl (by omega)
  have e0 := wG r0; subst e0
  have e1 := eH r1; subst e1
  exact ⟨v2, v3, v4, v5, ⟨c0, c1, c2, c3, c4, c5⟩, mS d1 r2, mS d2 r3, mS d3 r4, rdQ_of d4 d5 r5⟩
theorem lE {α : Type} {f : α → ByteArray} {m : Nat} : ∀ (l : List α) (a : ByteArray), (∀ x ∈ l, (f x).size ≤ m) → ((l.map f).foldl (· ++ ·) a).size ≤ a.size + l.length * m
 | [], a, _ => by simp
 | x :: r, a, h => by
  have ih := lE r (a ++ f x) (fun y hy => h y (List.mem_cons_of_mem _ hy))
  have h1 := h x (List.mem_cons_self ..)
  rw [List.map_cons, List.foldl_cons]
  rw [ByteArray.size_append] at ih
  rw [List.length_cons, Nat.succ_mul]
  omega
theorem lF {α : Type} {f : α → ByteArray} {m : Nat} (l : List α) (h : ∀ x ∈ l, (f x).size ≤ m) : (Lf (l.map f)).size ≤ l.length * m := by
 have := lE l ⟨#[]⟩ h
 unfold Lf
 have e : (⟨#[]⟩ : ByteArray).size = 0 := rfl
 omega
theorem pB {l : List PD} (hl : l.length ≤ 1000) (hf : ∀ x ∈ l, Ps x) (sep : ByteArray) (hs : sep.size ≤ 2) : (dS l sep).size ≤ 85000 := by
 have := T3 (m := 83) sep.data.toList (l.map I8) (fun w hw => by
  obtain ⟨d, hd, rfl⟩ := List.mem_map.1 hw
  exact dB (hf d hd))
 rw [List.length_map] at this
 have h3 : sep.data.toList.length = sep.size := rfl
 have h2 : l.length * (83 + sep.data.toList.length) ≤ 1000 * 85 := Nat.mul_le_mul hl (by omega)
 show (Po l sep.data.toList).length ≤ 85000
 unfold Po
 omega
theorem eqL_len {q : PQ} (h : lQ 1000 q) : (eqL 0 q).size ≤ 150000 := by
 have h1 := T3 (m := 30) [44, 32] (q.left.map (·.1)) (fun w hw => by
  obtain ⟨d, hd, rfl⟩ := List.mem_map.1 hw
  exact h.2.1 d hd)
 rw [List.length_map] at h1
 have h2 : q.left.length * (30 + ([44, 32] : List UInt8).length) ≤ 1000 * 32 := Nat.mul_le_mul h.1 (by simp)
 have h3 := Xy h.2.2.1
 have h4 := h.2.2.2
 have h5 : (Px q.left).length ≤ 32002 := by unfold Px; split <;> first | omega | (simp only [List.length_append,List.length_cons,List.length_nil]; omega)
 have h6 : (eqT q).length ≤ 132011 := by unfold eqT; split <;> simp only [List.length_append,List.length_cons,List.length_nil] <;> omega
 have e : (eqL 0 q).size = 2 + (eqT q).length + 2 := by
  unfold eqL
  rw [ByteArray.size_append, ByteArray.size_append]
  rfl
 omega
theorem uG {n : PN} (h : V4 1000 n) : (Ig 0 (Nn n)).size ≤ 160000000 := by
 obtain ⟨⟨a1, a2⟩, ⟨b1, b2⟩, ⟨c1, c2⟩, d1, d2, d3⟩ := h
 have h1 := pB a1 a2 ⟨#[44, 32]⟩ (by decide)
 have h2 := pB b1 b2 ⟨#[44, 32]⟩ (by decide)
 have h3 := pB c1 c2 ⟨#[59, 32]⟩ (by decide)
 have h4 := lF (f := eqL 0) (m := 150000) n.eqs (fun q hq => eqL_len (d2 q hq))
 have h5 : n.eqs.length * 150000 ≤ 1000 * 150000 := Nat.mul_le_mul d1 (Nat.le_refl _)
 have e1 : (Kl (Nn n)).size = 5 + n.name.length + 1 + (dS n.ins ⟨#[44, 32]⟩).size + 11 + (dS n.outs ⟨#[44, 32]⟩).size + 2 := by
  unfold Kl
  simp only [ByteArray.size_append]
  rfl
 have e2 : (R4 (Nn n)).size ≤ 4 + (dS n.vars ⟨#[59, 32]⟩).size + 2 := by
  unfold R4
  split
  ·simp only [ByteArray.size_append]
   exact Nat.le_refl _
  ·show 0 ≤ _
   omega
 unfold Ig
 simp only [ByteArray.size_append]
 have e3 : (⟨#[108, 101, 116, 10]⟩ : ByteArray).size = 4 := rfl
 have e4 : (⟨#[116, 101, 108, 10]⟩ : ByteArray).size = 4 := rfl
 have e5 : (Nn n).eqs = n.eqs := rfl
 rw [e3, e4, e5, e1]
 omega
theorem jE {w : World} (hg : GR (GhW w) w gF) {v : AV} {l : List PN} (hp : L4 v l) (hfit : ∀ n ∈ l, V4 1000 n) (hl : l.length ≤ 1000) {x : Value} (h : VR (GhW w) w v x) :
  Calls Tryz.prog 20 #[x] w fun e w' => e = .returned (.string (Sd l)) ∧ Below w.heap.size w w' := by
 have hz : (Va 0 (l.map Nn)).size ≤ 100000000000000 := by
  have h1 := lF (f := Ig 0) (m := 160000000) (l.map Nn) (fun x hx => by
   obtain ⟨n, hn, rfl⟩ := List.mem_map.1 hx
   exact uG (hfit n hn))
  rw [List.length_map] at h1
  have h2 : l.length * 160000000 ≤ 1000 * 160000000 := Nat.mul_le_mul hl (Nat.le_refl _)
  unfold Va
  omega
 refine tZ x (l.map Nn) w w.heap.size 0 (by omega) (Nat.le_refl _) hg (rdN_of hp h) (fun y hy => ?_) (by rw [List.length_map]; exact hl) hz
 obtain ⟨n, hn, rfl⟩ := List.mem_map.1 hy
 obtain ⟨a, b, c, d1, d2, d3⟩ := hfit n hn
 exact ⟨a, b, c, d1, fun q hq => ⟨Nat.le_trans (d2 q hq).1 (by omega), (d2 q hq).2.1, (d2 q hq).2.2.1, Nat.le_trans (d2 q hq).2.2.2 (by omega)⟩⟩
theorem Z2 {a b : PE} (h : LikeE a b) : Fm a = Fm b ∧ Wm a = Wm b := by cases h; exact ⟨rfl, rfl⟩
mutual
theorem aW : ∀ {a b : PE}, LikeE a b → Ir a = Ir b
 | _, _, .mk kind _ _ n name off l m h => by
  show V8 kind n name off (Db l) = V8 kind n name off (Db m)
  rw [cJ h]
theorem cJ : ∀ {l m : List PE}, LikeL l m → Db l = Db m
 | _, _, .nil => rfl
 | _, _, .cons a b l m h h2 => by
  show (⟨Ir a, Fm a, Wm a⟩ : KI) :: Db l = ⟨Ir b, Fm b, Wm b⟩ :: Db m
  rw [aW h, cJ h2, (Z2 h).1, (Z2 h).2]
end
theorem Each2.map_eq {α β γ : Type} {R : α → β → Prop} {f : α → γ} {g : β → γ} (hfg : ∀ a b, R a b → f a = g b) : ∀ {l : List α} {m : List β}, Each2 R l m → l.map f = m.map g
 | _, _, .nil => rfl
 | _, _, .cons a b l m h h2 => by rw [List.map_cons, List.map_cons, hfg a b h, h2.map_eq hfg]
theorem Each2.len {α β : Type} {R : α → β → Prop} : ∀ {l : List α} {m : List β}, Each2 R l m → l.length = m.length
 | _, _, .nil => rfl
 | _, _, .cons a b l m h h2 => by rw [List.length_cons, List.length_cons, h2.len]
theorem Each2.mem {α β : Type} {R : α → β → Prop} : ∀ {l : List α} {m : List β}, Each2 R l m → ∀ b ∈ m, ∃ a ∈ l, R a b
 | _, _, .cons a b l m h h2, x, hx => by
  rcases List.mem_cons.1 hx with rfl | hx
  ·exact ⟨a, List.mem_cons_self .., h⟩
  ·obtain ⟨y, hy, hr⟩ := h2.mem x hx
   exact ⟨y, List.mem_cons_of_mem _ hy, hr⟩
theorem pA {a b : PD} (h : Q3 a b) : I8 a = I8 b := by
 obtain ⟨h1, h2, h3, h4, h5⟩ := h
 unfold I8
 rw [h1, h2, h3, h4, h5]
theorem Sl {l m : List PD} (h : Each2 Q3 l m) (sep : ByteArray) : dS l sep = dS m sep := by
 unfold dS Po
 rw [h.map_eq (f := I8) (g := I8) (fun a b => pA)]
theorem eqT_like {a b : PQ} (h : lT a b) : eqL 0 a = eqL 0 b := by
 obtain ⟨h1, h2, h3⟩ := h
 unfold eqL eqTB eqT Px
 have e := h1.map_eq (f := fun x : List UInt8 × Nat => x.1) (g := fun x : List UInt8 × Nat => x.1) (fun a b e => e)
 rw [aW h3, h2, h1.len, e]
theorem Yz {a b : PN} (h : W1 a b) : Ig 0 (Nn a) = Ig 0 (Nn b) := by
 obtain ⟨h1, h2, h3, h4, h5⟩ := h
 have e1 : Kl (Nn a) = Kl (Nn b) := by
  unfold Kl Nn
  simp only
  rw [h1, Sl h2, Sl h3]
 have e2 : R4 (Nn a) = R4 (Nn b) := by
  unfold R4 Nn
  simp only
  rw [h4.len, Sl h4]
 have e3 : (Nn a).eqs.map (eqL 0) = (Nn b).eqs.map (eqL 0) := h5.map_eq (f := eqL 0) (g := eqL 0) (fun x y => eqT_like)
 unfold Ig
 rw [e1, e2, e3]
theorem mV {l m : List PN} (h : Each2 W1 l m) : Sd l = Sd m := by
 unfold Sd Va
 rw [List.map_map, List.map_map, h.map_eq (f := Ig 0 ∘ Nn) (g := Ig 0 ∘ Nn) (fun a b => Yz)]
mutual
theorem kQ : ∀ {a b : PE}, LikeE a b → Fit a → Fit b ∧ F8 b = F8 a
 | _, _, .mk kind _ _ n name off l m h, hf => by
  obtain ⟨hn, hm, hk⟩ : (-9223372036854775808 ≤ n ∧ n ≤ 9223372036854775807) ∧ name.length ≤ 30 ∧ (∀ e ∈ l, Fit e) := by cases hf; exact ⟨‹_›, ‹_›, ‹_›⟩
  obtain ⟨q1, q2⟩ := cW h hk
  exact ⟨.mk _ _ _ _ _ _ hn hm q1, by rw [I2, I2, q2]⟩
theorem cW : ∀ {l m : List PE}, LikeL l m → (∀ e ∈ l, Fit e) → (∀ e ∈ m, Fit e) ∧ F8.sizeL m = F8.sizeL l
 | _, _, .nil, _ => ⟨fun e h => (by cases h), rfl⟩
 | _, _, .cons a b l m h h2, hf => by
  obtain ⟨q1, q2⟩ := kQ h (hf a (List.mem_cons_self ..))
  obtain ⟨q3, q4⟩ := cW h2 (fun e he => hf e (List.mem_cons_of_mem _ he))
  exact ⟨fun e he => by rcases List.mem_cons.1 he with rfl | he; exact q1; exact q3 e he, by rw [F4, F4, q2, q4]⟩
end
theorem Vn {l m : List PD} (h : Each2 Q3 l m) {k : Nat} (hf : l.length ≤ k ∧ ∀ x ∈ l, Ps x) : m.length ≤ k ∧ ∀ x ∈ m, Ps x :=
 ⟨by rw [← h.len]; exact hf.1, fun x hx => by
  obtain ⟨a, ha, hr⟩ := h.mem x hx
  have := hf.2 a ha
  exact ⟨by rw [← hr.1]; exact this.1, by rw [← hr.2.2.2.1]; exact this.2⟩⟩
theorem uH {a b : PN} (h : W1 a b) {k : Nat} (hf : V4 k a) : V4 k b := by
 obtain ⟨h1, h2, h3, h4, h5⟩ := h
 obtain ⟨f1, f2, f3, f4, f5, f6⟩ := hf
 refine ⟨Vn h2 f1, Vn h3 f2, Vn h4 f3, by rw [← h5.len]; exact f4, fun q hq => ?_, by rw [← h1]; exact f6⟩
 obtain ⟨p, hp, hr⟩ := h5.mem q hq
 obtain ⟨g1, g2, g3, g4⟩ := f5 p hp
 obtain ⟨r1, r2, r3⟩ := hr
 obtain ⟨s1, s2⟩ := kQ r3 g3
 refine ⟨by rw [← r1.len]; exact g1, fun x hx => ?_, s1, by rw [s2]; exact g4⟩
 obtain ⟨y, hy, hyr⟩ := r1.mem x hx
 rw [← hyr]; exact g2 y hy
end Go.Ax
noncomputable section
namespace Go.Ax
open Go.RowKit
mutual
def clean : AV → AV
 | .sl _ _ sz es => .sl 0 0 sz (G6 es)
 | .agg cs => .agg (G6 cs)
 | .tup vs => .tup (G6 vs)
 | .v x => .v x
 | .nilp => .nilp
 | .nils => .nils
 | .nilm => .nilm
 | .ptr a b => .ptr a b
 | .ep cs => .ep cs
 | .map id => .map id
 | .fn f a b => .fn f a b
 | .iface t x => .iface t x
 | .bs a b c d => .bs a b c d
def G6 : List AV → List AV
 | [] => []
 | a :: r => clean a :: G6 r
end
mutual
def I5 : AV → Bool
 | .sl _ _ _ es => Ia es
 | .agg cs => Ia cs
 | .tup vs => Ia vs
 | .v _ => true
 | .nilp => true
 | .nils => true
 | .nilm => true
 | .ptr _ _ => false
 | .ep _ => false
 | .map _ => false
 | .fn _ _ _ => false
 | .iface _ _ => false
 | .bs _ _ _ _ => false
def Ia : List AV → Bool
 | [] => true
 | a :: r => I5 a && Ia r
end
theorem Ld : ∀ es, G6 es = es.map clean
 | [] => rfl
 | a :: r => by rw [G6, Ld r]; rfl
theorem Ou : ∀ {es}, Ia es = true → ∀ a ∈ es, I5 a = true
 | [], _, a, h => by cases h
 | b :: r, h, a, ha => by
  rw [Ia, Bool.and_eq_true] at h
  rcases List.mem_cons.1 ha with rfl | ha
  ·exact h.1
  ·exact Ou h.2 a ha
theorem dK (a : AV) : (clean a).one = a.one := by cases a <;> rfl
theorem Ww (a : AV) : (clean a).cells = a.cells.map clean := by
 cases a <;> first | rfl | skip
 ·show G6 _ = _; rw [Ld]; rfl
theorem Pj : ∀ es : List AV, Dt (es.map clean) = (Dt es).map clean
 | [] => rfl
 | a :: r => by
  unfold Dt
  rw [List.map_cons, List.flatMap_cons, List.flatMap_cons, List.map_append, Ww]
  have := Pj r
  unfold Dt at this
  rw [this]
theorem kM {a : AV} (h : I5 a = true) : ∀ c ∈ a.cells, I5 c = true := by
 cases a with
 | agg cs => exact Ou h
 | _ => intro c hc; simp only [AV.cells,List.mem_cons,List.not_mem_nil,or_false] at hc; subst hc; exact h
theorem vA {es : List AV} (h : Ia es = true) : ∀ c ∈ Dt es, I5 c = true := by
 intro c hc
 unfold Dt at hc
 rw [List.mem_flatMap] at hc
 obtain ⟨e, he, hce⟩ := hc
 exact kM (Ou h e he) c hce
theorem VR.clean {γ γ' : Gh} {w : World} (him : ∀ b o, γ.im b o → γ'.im b o) {a : AV} {x : Value} (h : VR γ w a x) : I5 a = true → VR γ' w (Go.Ax.clean a) x := by
 induction h with
 | v x h => intro _; exact .v x h
 | nilp => intro _; exact .nilp
 | ptr id off b s h => intro hf; cases hf
 | ep cs b o c h h1 hr ih => intro hf; cases hf
 | nils => intro _; exact .nils
 | sl tok off sz es b o cap c hsz hes h1 h hr ht hf2 hc hb ih =>
  intro hf
  have hf : Ia es = true := hf
  show VR γ' w (.sl 0 0 sz (G6 es)) _
  rw [Ld]
  have hlen : (Dt (es.map Go.Ax.clean)).length = (Dt es).length := by rw [Pj, List.length_map]
  have key := VR.sl (γ := γ') (w := w) 0 0 sz (es.map Go.Ax.clean) b o cap c hsz (fun e he => by
    obtain ⟨e', he', rfl⟩ := List.mem_map.1 he
    rw [Ww, List.length_map]; exact hes e' he') (fun y hy => by
    rw [Pj] at hy
    obtain ⟨y', hy', rfl⟩ := List.mem_map.1 hy
    rw [dK]; exact h1 y' hy') (fun k hk => ⟨him _ _ (h k (by rw [← hlen]; exact hk)).1, (h k (by rw [← hlen]; exact hk)).2⟩) (fun k hk => by
    have hk' : k < (Dt es).length := by rw [← hlen]; exact hk
    have := ih k hk' (vA hf _ (List.getElem_mem hk'))
    have e : (Dt (es.map Go.Ax.clean))[k] = Go.Ax.clean (Dt es)[k] := by
     simp only [Pj,List.getElem_map]
    rw [e]; exact this) (fun h => by omega) (fun h => by omega) (by rw [List.length_map]; exact hc) hb
  rw [List.length_map] at key
  exact key
 | nilm => intro _; exact .nilm
 | map id b s h => intro hf; cases hf
 | fn f first caps x y hx hy h1 h2 ih1 ih2 => intro hf; cases hf
 | iface t a x h ih => intro hf; cases hf
 | agg cs x hx h1 h ih =>
  intro hf
  have hf : Ia cs = true := hf
  show VR γ' w (.agg (G6 cs)) _
  rw [Ld]
  refine .agg _ x (by rw [hx, List.length_map]) (fun a ha => ?_) (fun k hk hk' => ?_)
  ·obtain ⟨a', ha', rfl⟩ := List.mem_map.1 ha
   rw [dK]; exact h1 a' ha'
  ·rw [List.getElem_map]
   have hk2 : k < cs.length := by rw [List.length_map] at hk; exact hk
   exact ih k hk2 hk' (Ou hf _ (List.getElem_mem hk2))
 | tup vs x hx h ih =>
  intro hf
  have hf : Ia vs = true := hf
  show VR γ' w (.tup (G6 vs)) _
  rw [Ld]
  refine .tup _ x (by rw [hx, List.length_map]) (fun k hk hk' => ?_)
  rw [List.getElem_map]
  have hk2 : k < vs.length := by rw [List.length_map] at hk; exact hk
  exact ih k hk2 hk' (Ou hf _ (List.getElem_mem hk2))
 | bs id off n2 sz b s cap h hc hsz hb => intro hf; cases hf
def Gh.more (γ γ1 : Gh) : Gh := { γ with im := fun b o => γ.im b o ∨ γ1.im b o }
theorem SR.more {base : Nat} {w0 w w' : World} {γ γ1 : Gh} {S : St} (h : SR base w0 γ S w) (hb : Below w.heap.size w w') (hi : ∀ b o, γ1.im b o → w.heap.size ≤ b ∧ ∃ v, w'.cell? ⟨b, o, none⟩ = some v) : SR base w0 (γ.more γ1) S w' ∧ Ext γ S w (γ.more γ1) S w' := by
 have hc : ∀ b o v, w.cell? ⟨b, o, none⟩ = some v → w'.cell? ⟨b, o, none⟩ = some v := fun b o v hv => (hb.cell (World.block_lt_of_cell? w _ hv)).trans hv
 have ev : Ev γ w (γ.more γ1) w' := ⟨fun _ _ h => h, fun _ _ h => .inl h, fun b o v _ hv => hc b o v hv, fun b arr T fr ha => ⟨arr, fr, (hb.block b (Array.getElem?_eq_some_iff.1 ha).1).trans ha, rfl⟩⟩
 have him : ∀ b, b < w.heap.size → ∀ o, (γ.more γ1).im b o → γ.im b o := fun b hlt o ho => ho.elim id (fun h => by have := (hi b o h).1; omega)
 refine ⟨⟨h.below.trans (hb.mono h.hbase), Nat.le_trans h.hbase hb.size, fun b o ho => ?_, h.fresh, h.pos, fun id b s e => Nat.lt_of_lt_of_le (h.inb id b s e) hb.size, fun id c e => ?_, h.inj⟩,
  ⟨ev, Nat.le_refl _, fun _ _ => rfl, hb.size, fun id c b s h l => .inr ⟨id, c, s, h, l⟩, fun b hl _ => ⟨hb.block b hl, him b hl⟩⟩⟩
 ·rcases ho with ho | ho
  ·obtain ⟨v, hv⟩ := h.imc b o ho; exact ⟨v, hc b o v hv⟩
  ·exact (hi b o ho).2
 ·obtain ⟨b, s, h1, h2, h3⟩ := h.live id c e
  exact ⟨b, s, h1, h2, h3.keep ev (hb.block b (h.inb id b s h1)) (fun o => him b (h.inb id b s h1) o)⟩
def Ni : R → Option AV
 | .ret a _ => Bool.rec none (some (clean a)) (I5 a)
 | _ => none
end Go.Ax
noncomputable section
namespace Go.Ax
open Go.RowKit Go.Proofs
set_option maxRecDepth 100000
mutual
theorem bM : ∀ {a : AV} {e : PE}, RepE a e → I5 a = true ∧ RepE (clean a) e
 | _, _, .mk kind pos n name off kv kids h => by
  obtain ⟨h1, h2⟩ := tP h
  refine ⟨?_, .mk kind pos n name off (clean kv) kids h2⟩
  show Ia (exC kind pos n name off kv) = true
  simp [exC, Ia, I5, Dp, Cl, h1]
theorem tP : ∀ {a : AV} {l : List PE}, RepK a l → I5 a = true ∧ RepK (clean a) l
 | _, _, .nil => ⟨rfl, .nil⟩
 | _, _, .row tok off es kids h => by
  obtain ⟨h1, h2⟩ := bL h
  exact ⟨h1, .row 0 0 (G6 es) kids h2⟩
theorem bL : ∀ {es : List AV} {l : List PE}, RepF es l → Ia es = true ∧ RepF (G6 es) l
 | _, _, .nil => ⟨rfl, .nil⟩
 | _, _, .cons a e r l h h2 => by
  obtain ⟨h1, h3⟩ := bM h
  obtain ⟨h4, h5⟩ := bL h2
  exact ⟨by rw [Ia, h1, h4]; rfl, .cons (clean a) e (G6 r) l h3 h5⟩
end
theorem Lj {α : Type} {sz : Nat} {A : α → AV} (hA : ∀ x, I5 (A x) = true ∧ clean (A x) = A x) {a : AV} {l : List α} (h : Hn sz A a l) : I5 a = true ∧ Hn sz A (clean a) l := by
 rcases h with ⟨rfl, rfl⟩ | ⟨tok, off, rfl⟩
 ·exact ⟨rfl, .inl ⟨rfl, rfl⟩⟩
 ·have key : ∀ l : List α, Ia (l.map A) = true ∧ G6 (l.map A) = l.map A := fun l => by
   induction l with
   | nil => exact ⟨rfl, rfl⟩
   | cons x r ih => rw [List.map_cons]; exact ⟨by rw [Ia, (hA x).1, ih.1]; rfl, by rw [G6, (hA x).2, ih.2]⟩
  refine ⟨(key l).1, .inr ⟨0, 0, ?_⟩⟩
  show AV.sl 0 0 sz (G6 (l.map A)) = _
  rw [(key l).2]
theorem Vx (d : PD) : I5 (F9 d) = true ∧ clean (F9 d) = F9 d := ⟨rfl, rfl⟩
theorem uR (d : List UInt8 × Nat) : I5 (F1 d) = true ∧ clean (F1 d) = F1 d := ⟨rfl, rfl⟩
theorem uT {v : AV} {q : PQ} (h : W4 v q) : I5 v = true ∧ W4 (clean v) q := by
 obtain ⟨lv, xs, rfl, hl, hx, hr⟩ := h
 obtain ⟨h1, h2⟩ := Lj uR hl
 obtain ⟨h3, h4⟩ := bM hr
 have h3 : Ia xs = true := h3
 have h4 : RepE (.agg (G6 xs)) q.e := h4
 refine ⟨?_, clean lv, G6 xs, rfl, h2, by rw [Ld, List.length_map]; exact hx, h4⟩
 show Ia (lv :: .v (.bool q.async) :: xs) = true
 rw [Ia, Ia, h1, h3]; rfl
theorem Wt : ∀ {es : List AV} {l : List PQ}, EqRows es l → Ia es = true ∧ EqRows (G6 es) l
 | _, _, .nil => ⟨rfl, .nil⟩
 | _, _, .cons a q r l h h2 => by
  obtain ⟨h1, h3⟩ := uT h
  obtain ⟨h4, h5⟩ := Wt h2
  exact ⟨by rw [Ia, h1, h4]; rfl, .cons _ _ _ _ h3 h5⟩
theorem jY {v : AV} {n : PN} (h : Ql v n) : I5 v = true ∧ Ql (clean v) n := by
 obtain ⟨a, b, c, d, es, rfl, h1, h2, h3, h4, h5⟩ := h
 obtain ⟨a1, a2⟩ := Lj Vx h1
 obtain ⟨b1, b2⟩ := Lj Vx h2
 obtain ⟨c1, c2⟩ := Lj Vx h3
 obtain ⟨e1, e2⟩ := Wt h5
 have hd : I5 d = true ∧ ((clean d = .nils ∧ G6 es = []) ∨ ∃ tok, clean d = .sl tok 0 8 (G6 es)) := by
  rcases h4 with ⟨rfl, rfl⟩ | ⟨tok, rfl⟩
  ·exact ⟨rfl, .inl ⟨rfl, rfl⟩⟩
  ·exact ⟨e1, .inr ⟨0, rfl⟩⟩
 refine ⟨?_, clean a, clean b, clean c, clean d, G6 es, rfl, a2, b2, c2, hd.2, e2⟩
 show Ia (Hm n.name n.pos a b c d) = true
 simp [Hm, Ia, I5, Dp, Cl, a1, b1, c1, hd.1]
theorem Rs : ∀ {es : List AV} {l : List PN}, NodeRows es l → Ia es = true ∧ NodeRows (G6 es) l
 | _, _, .nil => ⟨rfl, .nil⟩
 | _, _, .cons a q r l h h2 => by
  obtain ⟨h1, h3⟩ := jY h
  obtain ⟨h4, h5⟩ := Rs h2
  exact ⟨by rw [Ia, h1, h4]; rfl, .cons _ _ _ _ h3 h5⟩
theorem Wo {v : AV} {l : List PN} (h : L4 v l) : I5 v = true ∧ L4 (clean v) l := by
 obtain ⟨tok, off, es, rfl, hn⟩ := h
 obtain ⟨h1, h2⟩ := Rs hn
 exact ⟨h1, 0, 0, G6 es, rfl, h2⟩
theorem P7 {a b : List UInt8} (h : Cl a = Cl b) : a = b := by unfold Cl at h; injection h with h; injection h with h; injection h with h; injection h
theorem Qm {a b : Nat} (h : Dp a = Dp b) : a = b := by unfold Dp at h; injection h with h; injection h with _ h; omega
mutual
theorem iY : ∀ {a : AV} {e e' : PE}, RepE a e → RepE a e' → e = e'
 | _, _, _, .mk kind pos n name off kv kids h, h' => by
  generalize hx : AV.agg (exC kind pos n name off kv) = x at h'
  cases h' with
  | mk kind' pos' n' name' off' kv' kids' h2 =>
   injection hx with hx
   unfold exC at hx
   injection hx with e1 hx; injection hx with e2 hx; injection hx with e3 hx; injection hx with e4 hx; injection hx with e5 hx; injection hx with e6 hx
   have e1 := Qm e1; have e2 := Qm e2; have e4 := P7 e4
   injection e3 with e3; injection e3 with _ e3
   injection e5 with e5; injection e5 with e5
   subst e1; subst e2; subst e3; subst e4; subst e5; subst e6
   rw [xJ h h2]
theorem xJ : ∀ {a : AV} {l l' : List PE}, RepK a l → RepK a l' → l = l'
 | _, _, _, .nil, h' => by cases h'; rfl
 | _, _, _, .row tok off es kids h, h' => by
  cases h' with
  | row _ _ _ _ h2 => exact iX h h2
theorem iX : ∀ {es : List AV} {l l' : List PE}, RepF es l → RepF es l' → l = l'
 | _, _, _, .nil, h' => by cases h'; rfl
 | _, _, _, .cons a e r l h h2, h' => by
  cases h' with
  | cons _ e' _ l' h3 h4 => rw [iY h h3, iX h2 h4]
end
theorem W9 {α : Type} {sz : Nat} {A : α → AV} (hA : ∀ x y, A x = A y → x = y) {a : AV} {l m : List α} (h : Hn sz A a l) (h' : Hn sz A a m) : l = m := by
 rcases h with ⟨rfl, rfl⟩ | ⟨tok, off, rfl⟩ <;> rcases h' with ⟨e, rfl⟩ | ⟨tok', off', e⟩
 ·rfl
 ·cases e
 ·cases e
 ·injection e with e1 e2 e3 e4
  have key : ∀ (l m : List α), l.map A = m.map A → l = m := fun l => by
   induction l with
   | nil => intro m hm; cases m with
    | nil => rfl
    | cons x r => cases hm
   | cons x r ih => intro m hm; cases m with
    | nil => cases hm
    | cons y s =>
     rw [List.map_cons, List.map_cons] at hm
     injection hm with h1 h2
     rw [hA x y h1, ih s h2]
  exact key l m e4
theorem Zu (x y : PD) (h : F9 x = F9 y) : x = y := by
 unfold F9 F2 at h
 injection h with h
 injection h with e1 h; injection h with e2 h; injection h with e3 h; injection h with e4 h; injection h with e5 h; injection h with e6 h
 have e1 := P7 e1; have e2 := Qm e2; have e5 := P7 e5
 injection e3 with e3; injection e3 with e3
 injection e4 with e4; injection e4 with e4
 injection e6 with e6; injection e6 with e6
 cases x; cases y; simp only at *; subst e1; subst e2; subst e3; subst e4; subst e5; subst e6; rfl
theorem yV (x y : List UInt8 × Nat) (h : F1 x = F1 y) : x = y := by
 unfold F1 Gz at h
 injection h with h
 injection h with e1 h; injection h with e2 h
 have e1 := P7 e1; have e2 := Qm e2
 cases x; cases y; simp only at *; subst e1; subst e2; rfl
theorem zE {v : AV} {p q : PQ} (h : W4 v p) (h' : W4 v q) : p = q := by
 obtain ⟨lv, xs, rfl, hl, hx, hr⟩ := h
 obtain ⟨lv', xs', e, hl', hx', hr'⟩ := h'
 unfold eqC at e
 injection e with e
 injection e with e1 e; injection e with e2 e
 subst e1; subst e
 injection e2 with e2; injection e2 with e2
 have f1 := W9 yV hl hl'
 have f2 := iY hr hr'
 cases p; cases q; simp only at *; subst e2; subst f1; subst f2; rfl
theorem Zm : ∀ {es : List AV} {l m : List PQ}, EqRows es l → EqRows es m → l = m
 | _, _, _, .nil, h' => by cases h'; rfl
 | _, _, _, .cons a q r l h h2, h' => by
  cases h' with
  | cons _ q' _ l' h3 h4 => rw [zE h h3, Zm h2 h4]
theorem nR {v : AV} {p q : PN} (h : Ql v p) (h' : Ql v q) : p = q := by
 obtain ⟨a, b, c, d, es, rfl, h1, h2, h3, h4, h5⟩ := h
 obtain ⟨a', b', c', d', es', e, k1, k2, k3, k4, k5⟩ := h'
 unfold Hm at e
 injection e with e
 injection e with e1 e; injection e with e2 e; injection e with e3 e; injection e with e4 e; injection e with e5 e; injection e with e6 e
 have e1 := P7 e1; have e2 := Qm e2
 subst e3; subst e4; subst e5; subst e6
 have f1 := W9 Zu h1 k1
 have f2 := W9 Zu h2 k2
 have f3 := W9 Zu h3 k3
 have f4 : es = es' := by
  rcases h4 with ⟨rfl, rfl⟩ | ⟨tok, rfl⟩ <;> rcases k4 with ⟨e, rfl⟩ | ⟨tok', e⟩
  ·rfl
  ·cases e
  ·cases e
  ·injection e
 subst f4
 have f5 := Zm h5 k5
 cases p; cases q; simp only at *; subst e1; subst e2; subst f1; subst f2; subst f3; subst f5; rfl
theorem Tr : ∀ {es : List AV} {l m : List PN}, NodeRows es l → NodeRows es m → l = m
 | _, _, _, .nil, h' => by cases h'; rfl
 | _, _, _, .cons a q r l h h2, h' => by
  cases h' with
  | cons _ q' _ l' h3 h4 => rw [nR h h3, Tr h2 h4]
theorem nQ {v : AV} {l m : List PN} (h : L4 v l) (h' : L4 v m) : l = m := by
 obtain ⟨tok, off, es, rfl, hn⟩ := h
 obtain ⟨tok', off', es', e, hn'⟩ := h'
 injection e with e1 e2 e3 e4
 subst e4
 exact Tr hn hn'
end Go.Ax
noncomputable section
namespace Go.Ax
open Go.RowKit Go.Proofs
open Classical
set_option maxRecDepth 100000
theorem CT.one {E : Env} {k : FuncId} {args : List AV} {S : St} {r r' : R} (h : CT E k args S r) (h' : CT E k args S r') : r = r' := by
 obtain ⟨m, hm⟩ := h
 obtain ⟨m', hm'⟩ := h'
 rw [← hm (max m m') (by omega), ← hm' (max m m') (by omega)]
theorem gR_drop {γ : Gh} {w : World} (hg : GR γ w gR) : GR ⟨fun _ => none, γ.im⟩ w gR := by
 intro g cs h
 have h0 := h
 unfold gR at h
 cases hb : Nat.beq g 5 with
 | false => rw [hb] at h; cases h
 | true =>
  have : g = 5 := Nat.eq_of_beq_eq_true hb
  subst this
  injection h with h; subst h
  refine ⟨?_, fun h2 => absurd h2 (by simp)⟩
  have := (hg 5 _ rfl).1
  cases this with
  | ep _ b o c h1 h2 hr =>
   refine .ep _ _ _ c h1 h2 (fun k hk => ?_)
   have hr := hr k hk
   have hk0 : k = 0 := by simp at hk; exact hk
   subst hk0
   simp only [List.getElem_cons_zero] at hr ⊢
   generalize c 0 = z at hr
   cases hr with
   | iface t a x hx =>
    cases hx with
    | ep cs b o c h1 h2 hr => exact .iface _ _ _ (.ep [] b o c (fun k h => absurd h (Nat.not_lt_zero k)) (fun _ h => absurd h List.not_mem_nil) (fun k h => absurd h (Nat.not_lt_zero k)))
theorem memoCT {k : FuncId} {args : List AV} {r : R} {a : AV} (hct : CT E1 k args St0 r) (hc : Ni r = some a) (hF : (E1.F k).isSome = true) {base : Nat} {w0 : World} {γ : Gh} {S : St} {w : World} {vs : List Value}
  (hS : SR base w0 γ S w) (hg : GR γ w gR) (hv : ∀ γ : Gh, VRL γ w args vs) : Calls Tryz.prog k vs.toArray w (Lw base w0 γ S w (.ret a S)) := by
 cases hr : r with
 | fail => rw [hr] at hc; cases hc
 | pan a S => rw [hr] at hc; cases hc
 | ret a1 S1 =>
  rw [hr] at hc
  obtain ⟨m0, hm⟩ := hct
  have hm := hm m0 (Nat.le_refl _)
  have hS0 : SR w.heap.size w ⟨fun _ => none, γ.im⟩ St0 w := ⟨.refl _ _, Nat.le_refl _, fun b o h => hS.imc b o h, fun _ _ => ⟨rfl, rfl⟩, Nat.le_refl _, fun _ _ _ h => (by cases h), fun _ _ h => (by cases h), fun _ _ _ _ _ _ _ h => (by cases h)⟩
  have := Nj Rw Xm (Ii Rw Si) m0 w.heap.size w k args St0 (by show ckN E1 m0 k args St0 ≠ _; rw [hm, hr]; intro e; cases e) _ w vs hS0 (gR_drop hg) (hv _) hF
  rw [show Rz E1 (Cf E1) m0 k args St0 = .ret a1 S1 from hm.trans hr] at this
  refine this.mono fun e w' he => ?_
  obtain ⟨γ', v, h1, h2, h3, rfl⟩ := he
  cases hf : I5 a1 with
  | false => simp only [Ni,hf] at hc; cases hc
  | true =>
   simp only [Ni,hf] at hc
   injection hc with hc; subst hc
   have hi : ∀ b o, (⟨fun _ => none, fun b o => γ'.im b o ∧ w.heap.size ≤ b⟩ : Gh).im b o → w.heap.size ≤ b ∧ ∃ v, w'.cell? ⟨b, o, none⟩ = some v := fun b o ho => ⟨ho.2, h1.imc b o ho.1⟩
   obtain ⟨q1, q2⟩ := hS.more h1.below hi
   refine ⟨_, v, q1, q2, h3.clean (fun b o ho => ?_) hf, rfl⟩
   by_cases hlt : b < w.heap.size
   ·exact .inl ((h2.frame b hlt (fun id c s hm hl => by cases hl)).2 o ho)
   ·exact .inr ⟨ho, Nat.le_of_not_lt hlt⟩
def jD (l : List UInt8) : R := if h : ∃ r, CT E1 19 [Cl l] St0 r then Classical.choose h else .fail
theorem jC {l : List UInt8} {r : R} (h : CT E1 19 [Cl l] St0 r) : jD l = r := by
 have he : ∃ r, CT E1 19 [Cl l] St0 r := ⟨r, h⟩
 unfold jD
 rw [dif_pos he]
 exact (Classical.choose_spec he).one h
def Mw (args : List AV) (S : St) : R := match args with
 | [.v (.string s)] => match Ni (jD s.data.toList) with
  | some a => .ret a S
  | none => .fail
 | _ => .fail
theorem prog_I7 (base : Nat) (w0 : World) (args : List AV) (S : St) (hne : Mw args S ≠ .fail) (γ : Gh) (w : World) (vs : List Value) (hS : SR base w0 γ S w) (hg : GR γ w gR) (hv : VRL γ w args vs) : Calls Tryz.prog 19 vs.toArray w (Lw base w0 γ S w (Mw args S)) := by
 generalize hr : Mw args S = r at hne ⊢
 unfold Mw at hr
 split at hr
 case h_2 => exact absurd hr.symm hne
 rename_i s
 split at hr
 case h_2 => exact absurd hr.symm hne
 rename_i a ha
 subst hr
 by_cases h : ∃ r, CT E1 19 [Cl s.data.toList] St0 r
 ·obtain ⟨r, h⟩ := h
  rw [jC h] at ha
  refine memoCT h ha (by kernel_rfl) hS hg (fun γ' => ?_)
  refine ⟨hv.1, fun k h1 h2 => ?_⟩
  match k, h1 with
  | 0, _ =>
   have := hv.2 0 (by simp) h2
   generalize vs[0] = z at this
   cases this
   exact .v _ rfl
 ·unfold jD at ha
  rw [dif_neg h] at ha
  cases ha
theorem qL {l : List UInt8} {out : (Nat × Nat) ⊕ List Tk} (hsz : l.length ≤ 1000000) (hlx : Kk l = some out) (S : St) :
  (∃ ns v, Ke 70000 out = some (.inl ns) ∧ Mw [Cl l] S = .ret (.tup [v, .agg (Dv 0 0)]) S ∧ L4 v ns) ∨ (∃ y : Nat × Nat, Ke 70000 out = some (.inr y) ∧ Mw [Cl l] S = .ret (.tup [.nils, .agg (Dv y.1 y.2)]) S) := by
 obtain ⟨hok, _⟩ := read_s hlx
 obtain ⟨r, hct, hpost⟩ := Yp l St0 (Nat.le_refl _) hsz out hlx 70000 (by omega) hok
 have hp : Mw [Cl l] S = match Ni (jD l) with | some a => .ret a S | none => .fail := rfl
 rw [jC hct] at hp
 cases hx : Ke 70000 out with
 | none => exact absurd hx hok
 | some x =>
  rw [hx] at hpost
  cases x with
  | inl ns =>
   obtain ⟨v, S', rfl, hi, hk⟩ := hpost
   obtain ⟨h1, h2⟩ := Wo hi
   refine .inl ⟨ns, clean v, rfl, ?_, h2⟩
   rw [hp]
   have e : Ni (.ret (.tup [v, .agg (Dv 0 0)]) S') = some (.tup [clean v, .agg (Dv 0 0)]) := by
    have hf : I5 (.tup [v, .agg (Dv 0 0)]) = true := by
     show (I5 v && (Ia (Dv 0 0) && true)) = true
     rw [h1]; rfl
    simp only [Ni,hf]
    rfl
   rw [e]
  | inr y =>
   obtain ⟨S', rfl, hk⟩ := hpost
   refine .inr ⟨y, rfl, ?_⟩
   rw [hp]
   have e : Ni (.ret (.tup [.nils, .agg (Dv y.1 y.2)]) S') = some (.tup [.nils, .agg (Dv y.1 y.2)]) := rfl
   rw [e]
def Rh (v : AV) (l : List PN) : Prop := L4 v l ∧ (∀ n ∈ l, V4 1000 n) ∧ l.length ≤ 1000
def Vb : List AV → Option AV
 | [v] => if h : ∃ l, Rh v l then some (.v (.string (Sd (Classical.choose h)))) else none
 | _ => none
theorem xO {v : AV} {l : List PN} (h : Rh v l) : Vb [v] = some (.v (.string (Sd l))) := by
 have he : ∃ l, Rh v l := ⟨l, h⟩
 unfold Vb
 simp only
 rw [dif_pos he, nQ (Classical.choose_spec he).1 h.1]
theorem zL {base : Nat} {w0 : World} {γ : Gh} {S : St} {w : World} (hS : SR base w0 γ S w) (hg : GR γ w gF) : GR (GhW w) w gF := by
 intro g cs h
 have h0 := hg g cs h
 refine ⟨?_, h0.2⟩
 have hcs : cs = Rj := by
  unfold gF at h
  cases hb : Nat.beq g 0 with
  | false => rw [hb] at h; cases h
  | true => rw [hb] at h; injection h with h; exact h.symm
 have h1 := h0.1
 cases h1 with
 | ep _ b o c h1 h2 hr =>
  refine .ep _ _ _ c (fun k hk => ⟨⟨World.block_lt_of_cell? w _ (h1 k hk).2, _, (h1 k hk).2⟩, (h1 k hk).2⟩) h2 (fun k hk => ?_)
  have hr := hr k hk
  have hp : cs[k] ∈ Rj := by rw [← hcs]; exact List.getElem_mem hk
  unfold Rj at hp
  obtain ⟨z, _, hz⟩ := List.mem_map.1 hp
  rw [← hz] at hr ⊢
  generalize c k = y at hr
  cases hr
  exact .v _ rfl
def G7 : Gl := fun g => Bool.rec (gR g) (some Rj) (Nat.beq g 0)
theorem G7_R {γ : Gh} {w : World} (h : GR γ w G7) : GR γ w gR := by
 intro g cs hg
 have hg' := hg
 unfold gR at hg
 cases hb : Nat.beq g 5 with
 | false => rw [hb] at hg; cases hg
 | true =>
  have : g = 5 := Nat.eq_of_beq_eq_true hb
  subst this
  exact h 5 cs hg'
theorem G7_F {γ : Gh} {w : World} (h : GR γ w G7) : GR γ w gF := by
 intro g cs hg
 have hg' := hg
 unfold gF at hg
 cases hb : Nat.beq g 0 with
 | false => rw [hb] at hg; cases hg
 | true =>
  have : g = 0 := Nat.eq_of_beq_eq_true hb
  subst this
  exact h 0 cs hg'
def knownI7 (k : Nat) : Option (List AV → St → R) := Bool.rec (Bool.rec (Bool.rec none (some (Fp Vb)) (Nat.beq k 20)) (some Vh) (Nat.beq k 25)) (some Mw) (Nat.beq k 19)
def E7 : Env := { P := Tryz.prog, G := G7, F := E1.F, I := knownI7, M := xE }
theorem e7_ok : E7.Ok := ⟨fun k fn h => Rw.fn k fn h⟩
theorem e7_mix : E7.P.follows .mixedOrders = true := Si
theorem e7_intr : Jd E7 := fun k g hk base w0 args S hne γ w vs hS hg hv => by
 have hk2 : (Bool.rec (Bool.rec (Bool.rec none (some (Fp Vb)) (Nat.beq k 20)) (some Vh) (Nat.beq k 25)) (some Mw) (Nat.beq k 19) : Option (List AV → St → R)) = some g := hk
 cases hb : Nat.beq k 19 with
 | true =>
  rw [hb] at hk2
  injection hk2 with hk2; subst hk2
  have : k = 19 := Nat.eq_of_beq_eq_true hb
  subst this
  exact prog_I7 base w0 args S hne γ w vs hS (G7_R hg) hv
 | false =>
  rw [hb] at hk2
  cases hc : Nat.beq k 25 with
  | true =>
   rw [hc] at hk2
   injection hk2 with hk2; subst hk2
   have : k = 25 := Nat.eq_of_beq_eq_true hc
   subst this
   exact lex_I base w0 args S hne γ w vs hS (G7_R hg) hv
  | false =>
   rw [hc] at hk2
   cases hd : Nat.beq k 20 with
   | false => rw [hd] at hk2; cases hk2
   | true =>
    rw [hd] at hk2
    injection hk2 with hk2; subst hk2
    have : k = 20 := Nat.eq_of_beq_eq_true hd
    subst this
    refine Yl hne hS fun a ha => ?_
    unfold Vb at ha
    split at ha
    ·rename_i v
     split at ha
     ·rename_i h
      injection ha with ha; subst ha
      obtain ⟨h1, h2, h3⟩ := Classical.choose_spec h
      generalize Classical.choose h = l at h1 h2 h3
      obtain ⟨f1, f2⟩ := Wo h1
      obtain ⟨hl, hvk⟩ := hv
      match vs, hl with
      | [x], _ =>
       have hx : VR γ w v x := hvk 0 (by simp) (by simp)
       have hx' : VR (GhW w) w (clean v) x := hx.clean (fun b o ho => by
        obtain ⟨y, hy⟩ := hS.imc b o ho
        exact ⟨World.block_lt_of_cell? w _ hy, y, hy⟩) f1
       refine (jE (zL hS (G7_F hg)) f2 h2 h3 hx').mono fun e w' he => ?_
       exact ⟨he.2, _, he.1, fun γ w => .v _ rfl⟩
     ·cases ha
    ·cases ha
end Go.Ax
noncomputable section
namespace Go.Ax
open Go.RowKit Go.Proofs
set_option maxRecDepth 100000
theorem sO (x : Int) (m : Nat) (hm : m < 65536) : ∃ n : Nat, n ≤ m ∧ bits .and .i64 x (m : Int) = (n : Int) := by
 unfold bits
 simp only
 have h : (BitVec.ofInt IntKind.i64.bits x &&& BitVec.ofInt IntKind.i64.bits (m : Int)).toNat ≤ m := by
  rw [BitVec.toNat_and]
  refine Nat.le_trans Nat.and_le_right ?_
  have e : (BitVec.ofInt IntKind.i64.bits (m : Int)).toNat = m := by
   rw [BitVec.ofInt_natCast, BitVec.toNat_ofNat]
   exact Nat.mod_eq_of_lt (Nat.lt_of_lt_of_le hm (by decide))
  rw [e]; exact Nat.le_refl _
 exact ⟨_, h, IntWalk.i64_in _ (by omega)⟩
def fr (k : Int) (b : Bool) : T AV := (T.leaf.set 0 (some (.v (.int .i64 k)))).set 1 (some (.v (.bool b)))
end Go.Ax
