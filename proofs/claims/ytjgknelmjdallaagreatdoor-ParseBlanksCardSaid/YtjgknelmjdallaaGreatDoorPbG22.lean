/- Ra -/
import Derived.Test.YtjgknelmjdallaaGreatDoorPbG20
import Derived.Lib.Join
import Derived.Lib.ItoaLen
import Derived.Test.YtjgknelmjdallaaGreatDoorPbG21
set_option linter.unusedVariables false
set_option linter.unusedSimpArgs false
noncomputable section
namespace Go.Ax
open Go.RowKit Go.Proofs
set_option maxRecDepth 100000
def E9 {α β : Type} (R : α → β → Prop) : PR α → PR β → Prop
 | .ok a i, .ok b j => i = j ∧ R a b
 | .bad _ e, .bad _ e' => e = e'
 | .out, .out => True
 | _, _ => False
section
variable {α β γ δ : Type}
theorem E9.bind {R : α → β → Prop} {Q : γ → δ → Prop} {x : PR α} {y : PR β} {f : α → Nat → PR γ} {g : β → Nat → PR δ} (h : E9 R x y) (hf : ∀ a b i, R a b → E9 Q (f a i) (g b i)) : E9 Q (x.bind f) (y.bind g) := by
 cases x <;> cases y <;> simp only [E9,PR.bind] at h ⊢ <;> first | exact h | exact h.elim | (obtain ⟨rfl, h⟩ := h; exact hf _ _ _ h)
theorem E9.ite {Q : γ → δ → Prop} {c c' : Prop} [Decidable c] [Decidable c'] (hc : c ↔ c') {x y : PR γ} {x' y' : PR δ} (h1 : c → E9 Q x x') (h2 : ¬ c → E9 Q y y') : E9 Q (if c then x else y) (if c' then x' else y') := by
 by_cases h : c
 ·rw [if_pos h, if_pos (hc.1 h)]; exact h1 h
 ·rw [if_neg h, if_neg (fun h' => h (hc.2 h'))]; exact h2 h
theorem E9.ok {R : α → β → Prop} {a : α} {b : β} {i : Nat} (h : R a b) : E9 R (.ok a i) (.ok b i) := ⟨rfl, h⟩
end
mutual
inductive LikeE : PE → PE → Prop where
 | mk (kind pos pos' : Nat) (n : Int) (name : List UInt8) (off : Bool) (kids kids' : List PE) (h : LikeL kids kids') : LikeE (.mk kind pos n name off kids) (.mk kind pos' n name off kids')
inductive LikeL : List PE → List PE → Prop where
 | nil : LikeL [] []
 | cons (a b : PE) (l m : List PE) (h : LikeE a b) (h2 : LikeL l m) : LikeL (a :: l) (b :: m)
end
theorem LikeL.snoc : ∀ {l m : List PE} {a b : PE}, LikeL l m → LikeE a b → LikeL (l ++ [a]) (m ++ [b])
 | [], [], a, b, .nil, h => .cons _ _ _ _ h .nil
 | _ :: _, _ :: _, a, b, .cons _ _ _ _ h h2, k => .cons _ _ _ _ h (h2.snoc k)
theorem LikeL.one {a b : PE} (h : LikeE a b) : LikeL [a] [b] := .cons _ _ _ _ h .nil
theorem LikeL.two {a b c d : PE} (h : LikeE a b) (k : LikeE c d) : LikeL [a, c] [b, d] := .cons _ _ _ _ h (.one k)
theorem LikeL.three {a b c d e f : PE} (h : LikeE a b) (k : LikeE c d) (m : LikeE e f) : LikeL [a, c, e] [b, d, f] := .cons _ _ _ _ h (.two k m)
def lS (t u : Tk) : Prop := t.kind = u.kind ∧ t.text = u.text ∧ t.num = u.num
structure LikeS (ts us : List Tk) : Prop where
 len : ts.length = us.length
 at_ : ∀ i, lS (tk ts i) (tk us i)
section
variable {ts us : List Tk} (h : LikeS ts us)
include h
theorem LikeS.kind (i : Nat) : (tk ts i).kind = (tk us i).kind := (h.at_ i).1
theorem LikeS.text (i : Nat) : (tk ts i).text = (tk us i).text := (h.at_ i).2.1
theorem LikeS.wrong (i : Nat) : Gb (tk ts i) = Gb (tk us i) := by unfold Gb; rw [h.kind]
theorem E8 (ws : List (List UInt8)) (i : Nat) : E9 lS (Dr ts ws i) (Dr us ws i) := by
 unfold Dr
 refine E9.ite (by rw [h.text]) (fun _ => .ok (h.at_ i)) (fun _ => ?_)
 exact h.wrong i
theorem Jg (k i : Nat) : E9 lS (Ft ts k i) (Ft us k i) := by
 unfold Ft
 refine E9.ite (by rw [h.kind]) (fun _ => .ok (h.at_ i)) (fun _ => ?_)
 exact h.wrong i
theorem Zy (i : Nat) : E9 Eq (Iq ts i) (Iq us i) := by
 unfold Iq
 refine E9.ite (by rw [h.text]) (fun _ => ?_) (fun _ => ?_)
 ·exact (Jg h 1 (i + 1)).bind fun a b j e => .ok (by rw [e.2.1])
 ·exact (Jg h 1 i).bind fun a b j e => .ok (by rw [e.2.1])
theorem kK (i : Nat) : (ts[i]? = none ∧ us[i]? = none) ∨ ∃ t u, ts[i]? = some t ∧ us[i]? = some u ∧ lS t u := by
 have hl := h.len
 by_cases hi : i < ts.length
 ·refine .inr ⟨ts[i], us[i]'(by omega), List.getElem?_eq_getElem hi, List.getElem?_eq_getElem (by omega), ?_⟩
  have := h.at_ i
  unfold tk at this
  rw [List.getElem?_eq_getElem hi, List.getElem?_eq_getElem (by omega)] at this
  exact this
 ·exact .inl ⟨List.getElem?_eq_none (by omega), List.getElem?_eq_none (by omega)⟩
theorem Yx (i : Nat) : E9 LikeE (Md ts i) (Md us i) := by
 unfold Md
 rcases kK h i with ⟨e1, e2⟩ | ⟨t, u, e1, e2, k1, k2, k3⟩
 ·rw [e1, e2]; exact trivial
 rw [e1, e2]
 have wr : Gb t = Gb u := by unfold Gb; rw [k1]
 show E9 LikeE (if t.text = [45] then _ else _) (if u.text = [45] then _ else _)
 refine E9.ite (by rw [k2]) (fun _ => ?_) (fun _ => ?_)
 ·rcases kK h (i + 1) with ⟨e3, e4⟩ | ⟨t2, u2, e3, e4, m1, m2, m3⟩
  ·rw [e3, e4]; exact trivial
  rw [e3, e4]
  have wr2 : Gb t2 = Gb u2 := by unfold Gb; rw [m1]
  show E9 LikeE (if t2.kind = 2 then _ else _) (if u2.kind = 2 then _ else _)
  refine E9.ite (by rw [m1]) (fun _ => ?_) (fun _ => wr2)
  rw [m3]
  exact .ok (.mk _ _ _ _ _ _ _ _ .nil)
 ·refine E9.ite (by rw [k1]) (fun _ => ?_) (fun _ => wr)
  rw [k3]
  refine E9.ite Iff.rfl (fun _ => rfl) (fun _ => .ok (.mk _ _ _ _ _ _ _ _ .nil))
theorem Qa (ws : List (List UInt8)) {kid kid' : Nat → PR PE} (hk : ∀ i, E9 LikeE (kid i) (kid' i)) : ∀ (n : Nat) (x x' : PE) (i : Nat), LikeE x x' → E9 LikeE (Ju ts ws kid n x i) (Ju us ws kid' n x' i)
 | 0, _, _, _, _ => trivial
 | n + 1, x, x', i, hx => by
  unfold Ju
  refine E9.ite (by rw [h.text]) (fun _ => (hk (i + 1)).bind fun a b j e => ?_) (fun _ => .ok hx)
  rw [h.text i]
  exact Qa ws hk n _ _ j (.mk _ _ _ _ _ _ _ _ (.two hx e))
theorem aR : ∀ (n : Nat) (x x' : PE) (i : Nat), LikeE x x' → E9 LikeE (Ka ts n x i) (Ka us n x' i)
 | 0, _, _, _, _ => trivial
 | n + 1, x, x', i, hx => by
  unfold Ka
  refine E9.ite (by rw [h.text]) (fun _ => (Zy h (i + 1)).bind fun a b j e => ?_) (fun _ => .ok hx)
  subst e
  exact aR n _ _ j (.mk _ _ _ _ _ _ _ _ (.one hx))
theorem U7 {kid kid' : Nat → PR PE} (hk : ∀ i, E9 LikeE (kid i) (kid' i)) : ∀ (n : Nat) (l l' : List PE) (i : Nat), LikeL l l' → E9 LikeL (Hh ts kid n l i) (Hh us kid' n l' i)
 | 0, _, _, _, _ => trivial
 | n + 1, l, l', i, hl => by
  unfold Hh
  refine E9.ite (by rw [h.text]) (fun _ => (hk (i + 1)).bind fun a b j e => U7 hk n _ _ j (hl.snoc e)) (fun _ => (E8 h _ i).bind fun _ _ _ _ => .ok hl)
theorem uP {kid kid' : Nat → PR PE} (hk : ∀ i, E9 LikeE (kid i) (kid' i)) (n i : Nat) : E9 LikeL (Lp ts kid n i) (Lp us kid' n i) := by
 unfold Lp
 refine (E8 h _ i).bind fun _ _ j _ => ?_
 refine E9.ite (by rw [h.text]) (fun _ => .ok .nil) (fun _ => (hk j).bind fun a b m e => U7 h hk n _ _ m (.one e))
theorem pH (i : Nat) : Nl ts i = Nl us i := by unfold Nl; rw [h.text, h.kind, h.text (i + 2)]
theorem Xx (i : Nat) : LikeE (Lz (tk ts i)) (Lz (tk us i)) := by
 unfold Lz
 rw [h.text]
 exact .mk _ _ _ _ _ _ _ _ .nil
omit h in
theorem pD {a b : PE} (h : LikeE a b) : N5 a = N5 b := by cases h; rfl
theorem Fy : ∀ (n : Nat) (nt : NT) (i : Nat), E9 LikeE (P ts n nt i) (P us n nt i)
 | 0, nt, i => by cases nt <;> exact trivial
 | n + 1, .expr, i => by
  simp only [P]
  refine E9.ite (by rw [h.text]) (fun _ => ?_) (fun _ => Fy n .arrow i)
  refine (Fy n .expr (i + 1)).bind fun a b j e1 => (E8 h _ j).bind fun _ _ j _ => ?_
  refine (Fy n .expr j).bind fun a b j e2 => (E8 h _ j).bind fun _ _ j _ => ?_
  exact (Fy n .expr j).bind fun a b j e3 => .ok (.mk _ _ _ _ _ _ _ _ (.three e1 e2 e3))
 | n + 1, .arrow, i => by
  simp only [P]
  refine (Fy n .or i).bind fun a b j e1 => ?_
  refine E9.ite (by rw [h.text]) (fun _ => (Fy n .arrow (j + 1)).bind fun a b m e2 => .ok (.mk _ _ _ _ _ _ _ _ (.two e1 e2))) (fun _ => ?_)
  refine E9.ite (by rw [pD e1]) (fun _ => .ok e1) (fun _ => ?_)
  exact E9.ite (by rw [h.text]) (fun _ => (Fy n .arrow (j + 1)).bind fun a b m e2 => .ok (.mk _ _ _ _ _ _ _ _ (.two e1 e2))) (fun _ => .ok e1)
 | n + 1, .or, i => by
  simp only [P]
  exact (Fy n .and i).bind fun a b j e1 => Qa h _ (Fy n .and) n _ _ j e1
 | n + 1, .and, i => by
  simp only [P]
  exact (Fy n .not i).bind fun a b j e1 => Qa h _ (Fy n .not) n _ _ j e1
 | n + 1, .not, i => by
  simp only [P]
  refine E9.ite (by rw [h.text]) (fun _ => (Fy n .not (i + 1)).bind fun a b j e1 => .ok (.mk _ _ _ _ _ _ _ _ (.one e1))) (fun _ => ?_)
  refine (Fy n .sum i).bind fun a b j e1 => ?_
  refine E9.ite (by rw [h.text]) (fun _ => (Fy n .sum (j + 1)).bind fun a b m e2 => ?_) (fun _ => .ok e1)
  rw [h.text j]
  exact .ok (.mk _ _ _ _ _ _ _ _ (.two e1 e2))
 | n + 1, .sum, i => by
  simp only [P]
  exact (Fy n .term i).bind fun a b j e1 => Qa h _ (Fy n .term) n _ _ j e1
 | n + 1, .term, i => by
  simp only [P]
  exact (Fy n .unary i).bind fun a b j e1 => Qa h _ (Fy n .unary) n _ _ j e1
 | n + 1, .unary, i => by
  simp only [P]
  refine E9.ite (by rw [h.text]) (fun _ => (Fy n .unary (i + 1)).bind fun a b j e1 => .ok (.mk _ _ _ _ _ _ _ _ (.one e1))) (fun _ => ?_)
  refine E9.ite (by rw [pH h]) (fun _ => Yx h i) (fun _ => ?_)
  exact E9.ite (by rw [h.text]) (fun _ => (Fy n .unary (i + 1)).bind fun a b j e1 => .ok (.mk _ _ _ _ _ _ _ _ (.one e1))) (fun _ => Fy n .when i)
 | n + 1, .when, i => by
  simp only [P]
  exact (Fy n .primary i).bind fun a b j e1 => aR h n _ _ j e1
 | n + 1, .primary, i => by
  simp only [P]
  refine E9.ite (by rw [h.kind]) (fun _ => Yx h i) (fun _ => ?_)
  refine E9.ite (by rw [h.kind]) (fun _ => Fy n .name i) (fun _ => ?_)
  refine E9.ite (by rw [h.text]) (fun _ => .ok (Xx h i)) (fun _ => ?_)
  refine E9.ite (by rw [h.text]) (fun _ => ?_) (fun _ => ?_)
  ·refine (Jg h 1 (i + 1)).bind fun t u j e => (Fy n .brk j).bind fun a b j e1 => (Fy n .brk j).bind fun a b j e2 => ?_
   rw [e.2.1]
   exact .ok (.mk _ _ _ _ _ _ _ _ (.two e1 e2))
  refine E9.ite (by rw [h.text]) (fun _ => ?_) (fun _ => Fy n .brk i)
  refine (Jg h 1 (i + 1)).bind fun t u j e => ?_
  rw [e.2.1]
  refine E9.ite (by rw [h.text]) (fun _ => ?_) (fun _ => .ok (.mk _ _ _ _ _ _ _ _ .nil))
  refine (E8 h _ (j + 1)).bind fun _ _ j _ => (Fy n .lit j).bind fun a b m e1 => ?_
  exact (U7 h (Fy n .lit) n _ _ m (.one e1)).bind fun l l' m e2 => .ok (.mk _ _ _ _ _ _ _ _ e2)
 | n + 1, .name, i => by
  simp only [P]
  refine E9.ite (by rw [h.text]) (fun _ => Fy n .call i) (fun _ => (Jg h 1 i).bind fun t u j e => ?_)
  rw [e.2.1]
  exact .ok (.mk _ _ _ _ _ _ _ _ .nil)
 | n + 1, .call, i => by
  simp only [P]
  refine (Jg h 1 i).bind fun t u j e => (uP h (Fy n .expr) n j).bind fun l l' m e2 => ?_
  rw [e.2.1]
  exact .ok (.mk _ _ _ _ _ _ _ _ e2)
 | n + 1, .brk, i => by
  simp only [P]
  exact (E8 h _ i).bind fun _ _ j _ => (Fy n .expr j).bind fun a b j e1 => (E8 h _ j).bind fun _ _ j _ => .ok e1
 | n + 1, .lit, i => by
  simp only [P]
  exact E9.ite (by rw [h.text]) (fun _ => .ok (Xx h i)) (fun _ => Yx h i)
end
end Go.Ax
noncomputable section
namespace Go.Ax
open Go.RowKit Go.Proofs
set_option maxRecDepth 100000
def Q3 (a b : PD) : Prop := a.name = b.name ∧ a.bool = b.bool ∧ a.fut = b.fut ∧ a.clock = b.clock ∧ a.off = b.off
def LikeF (a b : List UInt8 × Nat) : Prop := a.1 = b.1
inductive Each2 {α β : Type} (R : α → β → Prop) : List α → List β → Prop where
 | nil : Each2 R [] []
 | cons (a : α) (b : β) (l : List α) (m : List β) (h : R a b) (h2 : Each2 R l m) : Each2 R (a :: l) (b :: m)
theorem Each2.snoc {α β : Type} {R : α → β → Prop} : ∀ {l : List α} {m : List β} {a : α} {b : β}, Each2 R l m → R a b → Each2 R (l ++ [a]) (m ++ [b])
 | [], [], a, b, .nil, h => .cons _ _ _ _ h .nil
 | _ :: _, _ :: _, a, b, .cons _ _ _ _ h h2, k => .cons _ _ _ _ h (h2.snoc k)
theorem Each2.one {α β : Type} {R : α → β → Prop} {a : α} {b : β} (h : R a b) : Each2 R [a] [b] := .cons _ _ _ _ h .nil
def lT (a b : PQ) : Prop := Each2 LikeF a.left b.left ∧ a.async = b.async ∧ LikeE a.e b.e
def W1 (a b : PN) : Prop := a.name = b.name ∧ Each2 Q3 a.ins b.ins ∧ Each2 Q3 a.outs b.outs ∧ Each2 Q3 a.vars b.vars ∧ Each2 lT a.eqs b.eqs
mutual
theorem dA : ∀ {a b : PE}, LikeE a b → Qw a = Qw b
 | _, _, .mk _ _ _ _ _ _ l m h => by
  show IntKind.i64.wrap (Rx l 0 + 1) = IntKind.i64.wrap (Rx m 0 + 1)
  rw [Zs h 0]
theorem Zs : ∀ {l m : List PE}, LikeL l m → ∀ k, Rx l k = Rx m k
 | _, _, .nil, k => rfl
 | _, _, .cons a b l m h h2, k => by
  show Rx l (if Qw a > k then Qw a else k) = Rx m (if Qw b > k then Qw b else k)
  rw [dA h, Zs h2]
end
section
variable {ts us : List Tk} (h : LikeS ts us)
include h
theorem Vw (i : Nat) : E9 Q3 (Iz ts i) (Iz us i) := by
 unfold Iz
 refine (Jg h 1 i).bind fun t u j e => (E8 h _ j).bind fun _ _ j _ => ?_
 refine E9.ite (by rw [h.text]) (fun _ => ?_) (fun _ => ?_)
 ·exact (E8 h _ (j + 1)).bind fun a b m e2 => .ok ⟨e.2.1, by simp only [e2.2.1], rfl, rfl, rfl⟩
 ·exact (E8 h _ j).bind fun a b m e2 => .ok ⟨e.2.1, by simp only [e2.2.1], rfl, rfl, rfl⟩
theorem Uk (i : Nat) : E9 Q3 (Fw ts i) (Fw us i) := by
 unfold Fw
 refine (Vw h i).bind fun a b j e => ?_
 refine E9.ite (by rw [h.text]) (fun _ => ?_) (fun _ => ?_)
 ·refine (Zy h (j + 1)).bind fun c d j e2 => (E8 h _ j).bind fun _ _ j _ => ?_
  subst e2
  exact .ok ⟨e.1, e.2.1, e.2.2.1, rfl, rfl⟩
 ·exact (E8 h _ j).bind fun _ _ j _ => .ok e
theorem Rc (i : Nat) : E9 LikeF (Hu ts i) (Hu us i) := by
 unfold Hu
 exact (Jg h 1 i).bind fun t u j e => .ok e.2.1
omit h in
theorem Sc (h : LikeS ts us) {α β : Type} {R : α → β → Prop} {kid : Nat → PR α} {kid' : Nat → PR β} (hk : ∀ i, E9 R (kid i) (kid' i)) : ∀ (n : Nat) (l : List α) (m : List β) (i : Nat), Each2 R l m → E9 (Each2 R) (Hd ts kid n l i) (Hd us kid' n m i)
 | 0, _, _, _, _ => trivial
 | n + 1, l, l', i, hl => by
  unfold Hd
  refine E9.ite (by rw [h.text]) (fun _ => (hk (i + 1)).bind fun a b j e => Sc h hk n _ _ j (hl.snoc e)) (fun _ => (E8 h _ i).bind fun _ _ _ _ => .ok hl)
theorem Y7 {α β : Type} {R : α → β → Prop} {kid : Nat → PR α} {kid' : Nat → PR β} (hk : ∀ i, E9 R (kid i) (kid' i)) (n i : Nat) : E9 (Each2 R) (Kw ts kid n i) (Kw us kid' n i) := by
 unfold Kw
 refine (E8 h _ i).bind fun _ _ j _ => ?_
 exact E9.ite (by rw [h.text]) (fun _ => .ok .nil) (fun _ => (hk j).bind fun a b m e => Sc h hk n _ _ m (.one e))
theorem aT : ∀ (n : Nat) (l m : List PD) (i : Nat), Each2 Q3 l m → E9 (Each2 Q3) (Kb ts n l i) (Kb us n m i)
 | 0, _, _, _, _ => trivial
 | n + 1, l, m, i, hl => by
  unfold Kb
  exact E9.ite (by rw [h.kind]) (fun _ => (Uk h i).bind fun a b j e => aT n _ _ j (hl.snoc e)) (fun _ => .ok hl)
theorem nK (n i : Nat) : E9 (Each2 LikeF) (J0 ts n i) (J0 us n i) := by
 unfold J0
 refine E9.ite (by rw [h.kind]) (fun _ => (Rc h i).bind fun a b j e => .ok (.one e)) (fun _ => ?_)
 refine (E8 h _ i).bind fun _ _ j _ => (Rc h j).bind fun a b j e1 => (E8 h _ j).bind fun _ _ j _ => ?_
 refine ((Rc h j).bind fun c d m e2 => Sc h (Rc h) n _ _ m (.one e2)).bind fun l l' m e3 => ?_
 exact .ok (.cons _ _ _ _ e1 e3)
omit h in
theorem Td {kid kid' : Nat → PR PE} (hk : ∀ i, E9 LikeE (kid i) (kid' i)) (i : Nat) : E9 LikeE (Fz kid i) (Fz kid' i) := by
 unfold Fz
 exact (hk i).bind fun a b j e => E9.ite (by rw [dA e]) (fun _ => rfl) (fun _ => .ok e)
theorem eq_like (n i : Nat) : E9 lT (eqP ts n i) (eqP us n i) := by
 unfold eqP
 refine (nK h n i).bind fun l l' j e1 => (E8 h _ j).bind fun _ _ j _ => ?_
 refine E9.ite (by rw [h.text]) (fun _ => ?_) (fun _ => ?_)
 ·exact (Td (Fy h n .call) (j + 1)).bind fun a b m e2 => (E8 h _ m).bind fun _ _ m _ => .ok ⟨e1, rfl, e2⟩
 ·exact (Td (Fy h n .expr) j).bind fun a b m e2 => (E8 h _ m).bind fun _ _ m _ => .ok ⟨e1, rfl, e2⟩
theorem kY (N : Nat) : ∀ (n : Nat) (l m : List PQ) (i : Nat), Each2 lT l m → E9 (Each2 lT) (Rk ts N n l i) (Rk us N n m i)
 | 0, _, _, _, _ => trivial
 | n + 1, l, m, i, hl => by
  unfold Rk
  exact E9.ite (by rw [h.text]) (fun _ => .ok hl) (fun _ => (eq_like h N i).bind fun a b j e => kY N n _ _ j (hl.snoc e))
theorem mF (n i : Nat) : E9 (Each2 Q3) (Pu ts n i) (Pu us n i) := by
 unfold Pu
 exact E9.ite (by rw [h.text]) (fun _ => (Uk h (i + 1)).bind fun a b m e => aT h n _ _ m (.one e)) (fun _ => .ok .nil)
theorem bY (n i : Nat) : E9 W1 (Kv ts n i) (Kv us n i) := by
 unfold Kv
 refine (E8 h _ i).bind fun _ _ j _ => (Jg h 1 j).bind fun t u j e0 => (Y7 h (Vw h) n j).bind fun a b j e1 => ?_
 refine (E8 h _ j).bind fun _ _ j _ => (Y7 h (Vw h) n j).bind fun a b j e2 => (mF h n j).bind fun a b j e3 => ?_
 refine (E8 h _ j).bind fun _ _ j _ => (kY h n n _ _ j .nil).bind fun a b j e4 => (E8 h _ j).bind fun _ _ j _ => ?_
 exact .ok ⟨e0.2.1, e1, e2, e3, e4⟩
theorem bR (N : Nat) : ∀ (n : Nat) (l m : List PN) (i : Nat), Each2 W1 l m → E9 (Each2 W1) (Ma ts N n l i) (Ma us N n m i)
 | 0, _, _, _, _ => trivial
 | n + 1, l, m, i, hl => by
  unfold Ma
  exact E9.ite (by rw [h.text]) (fun _ => (bY h N i).bind fun a b j e => bR N n _ _ j (hl.snoc e)) (fun _ => .ok hl)
theorem fH (n i : Nat) : E9 (Each2 W1) (Fe ts n i) (Fe us n i) := by
 unfold Fe
 exact (bY h n i).bind fun a b j e => bR h n n _ _ j (.one e)
theorem tR {n : Nat} {l : List PN} (hr : Ke n (.inr ts) = some (.inl l)) : ∃ m, Ke n (.inr us) = some (.inl m) ∧ Each2 W1 l m := by
 have hp := fH h n 0
 unfold Ke at hr ⊢
 simp only at hr ⊢
 cases hx : Fe ts n 0 with
 | out => rw [hx] at hr; cases hr
 | bad a e => rw [hx] at hr; injection hr with hr; cases hr
 | ok l2 j =>
  rw [hx] at hr hp
  simp only at hr
  cases hy : Fe us n 0 with
  | out => rw [hy] at hp; exact hp.elim
  | bad a e => rw [hy] at hp; exact hp.elim
  | ok m j2 =>
   rw [hy] at hp
   obtain ⟨rfl, hlm⟩ := hp
   by_cases hk : (tk ts j).kind = 5
   ·rw [if_pos hk] at hr
    injection hr with hr; injection hr with hr; subst hr
    refine ⟨m, ?_, hlm⟩
    simp only
    rw [if_pos (by rw [← h.kind]; exact hk)]
   ·rw [if_neg hk] at hr
    injection hr with hr; cases hr
end
end Go.Ax
noncomputable section
namespace Go.Ax
open Go.RowKit Go.Proofs
set_option maxRecDepth 100000
def Nr (s : List UInt8) : Nat := if s = [111, 114] ∨ s = [120, 111, 114] then 2 else if s = [97, 110, 100] then 3 else if s = [43] ∨ s = [45] then 6 else if s = [42] ∨ s = [47] ∨ s = [109, 111, 100] then 7 else 5
def Fm : PE → Nat
 | .mk kind _ n name _ _ => if kind = 1 then (if n < 0 then 8 else 10) else if kind = 4 ∨ kind = 10 then 8 else if kind = 5 then 4 else if kind = 6 then Nr name else if kind = 7 then 0 else if kind = 8 ∨ kind = 9 then 1 else if kind = 11 then 9 else 10
def Wm : PE → Nat
 | .mk kind _ _ _ _ _ => kind
structure KI where
 text : List UInt8
 binds : Nat
 kind : Nat
def kT (ks : List KI) (i least : Nat) : List UInt8 := match ks[i]? with
 | none => []
 | some k => if k.binds < least then 40 :: (k.text ++ [41]) else k.text
def My (ks : List KI) : List UInt8 := Lib.join (ks.map (·.text)) [44, 32]
def Sv (name : List UInt8) (off : Bool) : List UInt8 := if off then [32, 119, 104, 101, 110, 32, 110, 111, 116, 32] ++ name else [32, 119, 104, 101, 110, 32] ++ name
def negT (ks : List KI) : List UInt8 := if (∃ k, ks[0]? = some k ∧ k.kind = 1) ∨ Er [45] (kT ks 0 8) = true then ([45, 40] ++ kT ks 0 8) ++ [41] else [45] ++ kT ks 0 8
def binT (name : List UInt8) (ks : List KI) : List UInt8 := (((kT ks 0 (if Nr name = 5 then 6 else Nr name) ++ [32]) ++ name) ++ [32]) ++ kT ks 1 (Nr name + 1)
def gW (name : List UInt8) (ks : List KI) : List UInt8 := if 0 < ks.length then ([97, 119, 97, 105, 116, 32] ++ name) ++ (([32, 97, 102, 116, 101, 114, 32, 40] ++ My ks) ++ [41]) else [97, 119, 97, 105, 116, 32] ++ name
def V8 (kind : Nat) (n : Int) (name : List UInt8) (off : Bool) (ks : List KI) : List UInt8 := match kind with
 | 1 => Lib.itoa n
 | 2 => if n = 0 then [102, 97, 108, 115, 101] else [116, 114, 117, 101]
 | 3 => name
 | 4 => negT ks
 | 5 => [110, 111, 116, 32] ++ kT ks 0 4
 | 6 => binT name ks
 | 7 => (((([105, 102, 32] ++ kT ks 0 0) ++ [32, 116, 104, 101, 110, 32]) ++ kT ks 1 0) ++ [32, 101, 108, 115, 101, 32]) ++ kT ks 2 0
 | 8 => (kT ks 0 2 ++ [32, 45, 62, 32]) ++ kT ks 1 1
 | 9 => (kT ks 0 0 ++ [32, 102, 98, 121, 32]) ++ kT ks 1 1
 | 10 => [112, 114, 101, 32] ++ kT ks 0 8
 | 11 => kT ks 0 9 ++ Sv name off
 | 12 => ((((([109, 101, 114, 103, 101, 32] ++ name) ++ [32, 40]) ++ kT ks 0 0) ++ [41, 32, 40]) ++ kT ks 1 0) ++ [41]
 | 13 => ((name ++ [40]) ++ My ks) ++ [41]
 | 14 => gW name ks
 | _ => []
mutual
def Ir : PE → List UInt8
 | .mk kind _ n name off kids => V8 kind n name off (Db kids)
def Db : List PE → List KI
 | [] => []
 | e :: r => ⟨Ir e, Fm e, Wm e⟩ :: Db r
end
theorem Vj : ∀ l : List PE, Db l = l.map fun e => ⟨Ir e, Fm e, Wm e⟩
 | [] => rfl
 | e :: r => by
  show _ :: Db r = _
  rw [Vj r]; rfl
theorem Om (l : List PE) : (Db l).length = l.length := by rw [Vj]; exact List.length_map ..
def F8 : PE → Nat
 | .mk _ _ _ _ _ kids => 1 + sizeL kids
where sizeL : List PE → Nat
 | [] => 0
 | e :: r => F8 e + sizeL r
theorem I2 (kind pos : Nat) (n : Int) (name : List UInt8) (off : Bool) (kids : List PE) : F8 (.mk kind pos n name off kids) = 1 + F8.sizeL kids := by rw [F8]
theorem J6 : F8.sizeL [] = 0 := by rw [F8.sizeL]
theorem F4 (e : PE) (r : List PE) : F8.sizeL (e :: r) = F8 e + F8.sizeL r := by rw [F8.sizeL]
inductive Fit : PE → Prop where
 | mk (kind pos : Nat) (n : Int) (name : List UInt8) (off : Bool) (kids : List PE) (hn : -9223372036854775808 ≤ n ∧ n ≤ 9223372036854775807) (hname : name.length ≤ 30) (hk : ∀ e ∈ kids, Fit e) : Fit (.mk kind pos n name off kids)
theorem zD (n : Int) (h : -9223372036854775808 ≤ n ∧ n ≤ 9223372036854775807) : (Lib.itoa n).length ≤ 21 := Lib.itoa_length_le n h.1 h.2
def Kr : List KI → Nat
 | [] => 0
 | k :: r => k.text.length + 4 + Kr r
theorem Qk : ∀ (ks : List KI) (i least : Nat), (kT ks i least).length ≤ Kr ks
 | [], i, least => by simp [kT, Kr]
 | k :: r, i, least => by
  cases i with
  | zero =>
   have h1 : (kT (k :: r) 0 least).length ≤ k.text.length + 2 := by
    unfold kT; simp only [Ah]; split <;> simp
   unfold Kr; omega
  | succ i =>
   have := Qk r i least
   have e : kT (k :: r) (i + 1) least = kT r i least := by unfold kT; simp
   rw [e]; unfold Kr; omega
theorem kT_len2 (a b : KI) (r : List KI) (x y : Nat) : (kT (a :: b :: r) 0 x).length + (kT (a :: b :: r) 1 y).length ≤ Kr (a :: b :: r) := by
 have h1 : (kT (a :: b :: r) 0 x).length ≤ a.text.length + 2 := by
  unfold kT; simp only [Ah]; split <;> simp
 have h2 : (kT (a :: b :: r) 1 y).length ≤ b.text.length + 2 := by
  unfold kT; simp only [Ag,Ah]; split <;> simp
 unfold Kr; unfold Kr; omega
theorem Vk : ∀ (ks : List KI) (x y : Nat), (kT ks 0 x).length + (kT ks 1 y).length ≤ Kr ks
 | [], x, y => by simp [kT, Kr]
 | [a], x, y => by
  have h1 := Qk [a] 0 x
  have e : kT [a] 1 y = [] := by simp [kT]
  rw [e]; simpa using h1
 | a :: b :: r, x, y => kT_len2 a b r x y
theorem jW : ∀ (ks : List KI) (x y z : Nat), (kT ks 0 x).length + (kT ks 1 y).length + (kT ks 2 z).length ≤ Kr ks
 | [], x, y, z => by simp [kT, Kr]
 | a :: r, x, y, z => by
  have h1 : (kT (a :: r) 0 x).length ≤ a.text.length + 2 := by
   unfold kT; simp only [Ah]; split <;> simp
  have e1 : kT (a :: r) 1 y = kT r 0 y := by unfold kT; simp
  have e2 : kT (a :: r) 2 z = kT r 1 z := by unfold kT; simp
  have := Vk r y z
  rw [e1, e2]; unfold Kr; omega
theorem On : ∀ (ks : List KI), (My ks).length ≤ Kr ks
 | [] => by simp [My, Lib.join_nil, Kr]
 | [a] => by simp [My, Lib.join_one, Kr]
 | a :: b :: r => by
  have ih := On (b :: r)
  have e : My (a :: b :: r) = a.text ++ ([44, 32] ++ My (b :: r)) := by
   unfold My Lib.join
   simp [List.intercalate, List.intersperse]
  rw [e]
  simp only [List.length_append,List.length_cons,List.length_nil]
  unfold Kr; omega
theorem sZ (kind : Nat) (n : Int) (name : List UInt8) (off : Bool) (ks : List KI) (hn : -9223372036854775808 ≤ n ∧ n ≤ 9223372036854775807) (hm : name.length ≤ 30) : (V8 kind n name off ks).length + 4 ≤ 100 + Kr ks := by
 have h2 := Vk ks
 have h1 := Qk ks
 have h3 := jW ks
 have hj := On ks
 unfold V8
 split
 ·have := zD n hn; omega
 ·split <;> simp <;> omega
 ·omega
 ·unfold negT; have := h1 0 8; split <;> simp <;> omega
 ·have := h1 0 4; simp; omega
 ·unfold binT; have := h2 (if Nr name = 5 then 6 else Nr name) (Nr name + 1); simp only [List.length_append,List.length_cons,List.length_nil]; omega
 ·have := h3 0 0 0; simp only [List.length_append,List.length_cons,List.length_nil]; omega
 ·have := h2 2 1; simp only [List.length_append,List.length_cons,List.length_nil]; omega
 ·have := h2 0 1; simp only [List.length_append,List.length_cons,List.length_nil]; omega
 ·have := h1 0 8; simp only [List.length_append,List.length_cons,List.length_nil]; omega
 ·have := h1 0 9; unfold Sv; split <;> simp only [List.length_append,List.length_cons,List.length_nil] <;> omega
 ·have := h2 0 0; simp only [List.length_append,List.length_cons,List.length_nil]; omega
 ·simp only [List.length_append,List.length_cons,List.length_nil]; omega
 ·unfold gW; split <;> simp only [List.length_append,List.length_cons,List.length_nil] <;> omega
 ·simp; omega
mutual
theorem Xy : ∀ {e : PE}, Fit e → (Ir e).length + 4 ≤ 100 * F8 e
 | .mk kind pos n name off kids, h => by
  obtain ⟨hn, hm, hk⟩ : (-9223372036854775808 ≤ n ∧ n ≤ 9223372036854775807) ∧ name.length ≤ 30 ∧ (∀ e ∈ kids, Fit e) := by cases h; exact ⟨‹_›, ‹_›, ‹_›⟩
  have h1 := sZ kind n name off (Db kids) hn hm
  have h2 := U3 kids hk
  rw [I2]
  show (V8 kind n name off (Db kids)).length + 4 ≤ _
  omega
theorem U3 : ∀ (l : List PE), (∀ e ∈ l, Fit e) → Kr (Db l) ≤ 100 * F8.sizeL l
 | [], _ => by rw [J6]; simp [Db, Kr]
 | e :: r, h => by
  have h1 := Xy (h e (List.mem_cons_self ..))
  have h2 := U3 r (fun x hx => h x (List.mem_cons_of_mem _ hx))
  rw [F4]
  show (Ir e).length + 4 + Kr (Db r) ≤ _
  omega
end
end Go.Ax
noncomputable section
namespace Go.Ax
open Go.RowKit Go.Proofs
set_option maxRecDepth 100000
theorem D8 : E6.P = Tryz.prog := _root_.id rfl
theorem Uf : E6.G = gF := _root_.id rfl
theorem D3 (a b : List UInt8) (h : a.length + b.length ≤ 4611686018427387904) : D5 .add (.v (.string ⟨⟨a⟩⟩)) (.v (.string ⟨⟨b⟩⟩)) = some (.v (.string ⟨⟨a ++ b⟩⟩)) := by
 have h' : (⟨⟨a⟩⟩ : ByteArray).size + (⟨⟨b⟩⟩ : ByteArray).size ≤ 4611686018427387904 := h
 simp only [D5,if_pos h']
theorem Gn (a b : AV) : Gy Tryz.prog 2 a b = false := by
 have h : Tryz.prog.underlying 2 = some (.int .i64) := rfl
 unfold Gy; rw [h]
theorem zY : ∃ fn, E6.F 17 = some fn := Option.isSome_iff_exists.1 (by kernel_rfl)
theorem fn6_49 : ∃ fn, E6.F 49 = some fn := Option.isSome_iff_exists.1 (by kernel_rfl)
theorem fn6_50 : ∃ fn, E6.F 50 = some fn := Option.isSome_iff_exists.1 (by kernel_rfl)
theorem gG : ∃ fn, E6.F 51 = some fn := Option.isSome_iff_exists.1 (by kernel_rfl)
theorem fn6_52 : ∃ fn, E6.F 52 = some fn := Option.isSome_iff_exists.1 (by kernel_rfl)
theorem zX : ∃ fn, E6.F 53 = some fn := Option.isSome_iff_exists.1 (by kernel_rfl)
theorem zW : ∃ fn, E6.F 54 = some fn := Option.isSome_iff_exists.1 (by kernel_rfl)
theorem fn6_55 : ∃ fn, E6.F 55 = some fn := Option.isSome_iff_exists.1 (by kernel_rfl)
theorem fn6_84 : ∃ fn, E6.F 84 = some fn := Option.isSome_iff_exists.1 (by kernel_rfl)
theorem fn6_85 : ∃ fn, E6.F 85 = some fn := Option.isSome_iff_exists.1 (by kernel_rfl)
theorem fn6_86 : ∃ fn, E6.F 86 = some fn := Option.isSome_iff_exists.1 (by kernel_rfl)
theorem zV : ∃ fn, E6.F 87 = some fn := Option.isSome_iff_exists.1 (by kernel_rfl)
theorem oD : ∃ fn, E6.F 88 = some fn := Option.isSome_iff_exists.1 (by kernel_rfl)
theorem fn6_48 : ∃ fn, E6.F 48 = some fn := Option.isSome_iff_exists.1 (by kernel_rfl)
theorem fn6_122 : ∃ fn, E6.F 122 = some fn := Option.isSome_iff_exists.1 (by kernel_rfl)
theorem fn6_28 : ∃ fn, E6.F 28 = some fn := Option.isSome_iff_exists.1 (by kernel_rfl)
theorem fn6_93 : ∃ fn, E6.F 93 = some fn := Option.isSome_iff_exists.1 (by kernel_rfl)
set_option maxHeartbeats 16000000 in
theorem wD (name : List UInt8) (off : Bool) (hl : name.length ≤ 1000000) (S : St) : WC E6 53 [Cl name, .v (.bool off)] S (fun r => r = .ret (Cl (Sv name off)) S) := by
 refine Do Tryz.f53 (by kernel_rfl) (by kernel_rfl) (by kernel_rfl) (show (_ : Nat) ≤ _ from by show (_ : Nat) ≤ _; simp [Tryz.f53]) ?_
 unfold Cl
 have h1 : ([32, 119, 104, 101, 110, 32, 110, 111, 116, 32] : List UInt8).length + name.length ≤ 4611686018427387904 := by simp; omega
 have h2 : ([32, 119, 104, 101, 110, 32] : List UInt8).length + name.length ≤ 4611686018427387904 := by simp; omega
 have q1 := D3 _ _ h1
 have q2 := D3 _ _ h2
 cases off
 ·simp only [Br,A8,Bk,Bn,Bz,A7,Cc,Bl,A9,Bq,Bp,Dk,A4,Bd,Bc,B6,A0,A1,ofOpt,Be,Bi,By,Bg,Cd,Nat.reduceLT,Nat.reduceAdd,Nat.reduceEqDiff,Aa,Ab,Ac,Ae,Am,D8,Dd,Tryz.f53,q1,q2]
  rfl
 ·simp only [Br,A8,Bk,Bn,Bz,A7,Cc,Bl,A9,Bq,Bp,C6,A4,Bd,Bc,B6,A0,A1,ofOpt,Be,Bi,By,Bg,Cd,Nat.reduceLT,Nat.reduceAdd,Nat.reduceEqDiff,Aa,Ab,Ac,Ae,Am,D8,Dd,Tryz.f53,q1,q2]
  rfl
set_option maxHeartbeats 16000000 in
theorem cR (b : Bool) (S : St) : WC E6 49 [.v (.bool b)] S (fun r => r = .ret (Cl (if b then [116, 114, 117, 101] else [102, 97, 108, 115, 101])) S) := by
 refine Do Tryz.f49 (by kernel_rfl) (by kernel_rfl) (by kernel_rfl) (show (_ : Nat) ≤ _ from by show (_ : Nat) ≤ _; simp [Tryz.f49]) ?_
 obtain ⟨fn1, hf1⟩ := fn6_84
 simp only [A8,Bk,A7,Bl,A9,Bq,B9,Bp,A4,Bd,Bc,B6,A0,A1,Bm,B0,ofOpt,Be,Nat.reduceLT,Nat.reduceEqDiff,Aa,Ab,Ac,Ae,Aj,Ak,Tryz.f49,hf1]
 refine Do Tryz.f84 (by kernel_rfl) (by kernel_rfl) (by kernel_rfl) (show (_ : Nat) ≤ _ from by show (_ : Nat) ≤ _; simp [Tryz.f84]) ?_
 cases b
 ·simp only [Br,A8,Bk,Bn,Bz,A7,Cc,Bl,A9,Bq,Bp,C8,Dk,A4,Bd,Bc,B6,A0,A1,ofOpt,Be,Bi,By,Bg,Cd,Nat.reduceLT,Nat.reduceEqDiff,Aa,Ab,Ac,Ae,Am,Tryz.f84]
  rfl
 ·simp only [Br,A8,Bk,Bn,Bz,A7,Cc,Bl,A9,Bq,Bp,C8,C6,A4,Bd,Bc,B6,A0,A1,ofOpt,Be,Bi,By,Bg,Cd,Nat.reduceLT,Nat.reduceEqDiff,Aa,Ab,Ac,Ae,Tryz.f84]
  rfl
set_option maxHeartbeats 16000000 in
theorem qA (s : List UInt8) (S : St) : WC E6 87 [Cl s] S (fun r => r = .ret (Dp (Nr s)) S) := by
 refine Do Tryz.f87 (by kernel_rfl) (by kernel_rfl) (by kernel_rfl) (show (_ : Nat) ≤ _ from by show (_ : Nat) ≤ _; simp [Tryz.f87]) ?_
 unfold Cl
 by_cases h0 : s = [111, 114]
 ·subst h0
  simp only [Br,A8,Bk,Bn,B3,Bz,A7,Cc,Ca,Cj,Bl,A9,Bq,Bp,C6,A4,Bd,Bc,B6,A0,A1,ofOpt,Be,Bi,By,Bg,Cd,Nat.reduceLT,Nat.reduceEqDiff,Aa,Ab,Ac,Ae,Am,Ap,D8,K9,Dd,Tryz.f87]
  rfl
 have d0 : decide (s = ([111, 114] : List UInt8)) = false := by simpa using h0
 by_cases h1 : s = [120, 111, 114]
 ·subst h1
  simp only [Br,A8,Bk,Bn,B3,Bz,A7,Cc,Ca,Cj,Bl,A9,Bq,Bp,C6,A4,Bd,Bc,B6,A0,A1,ofOpt,Be,Bi,By,Bg,Cd,Nat.reduceLT,Nat.reduceEqDiff,Aa,Ab,Ac,Ae,Am,Ap,D8,K9,Dd,Tryz.f87]
  rfl
 have d1 : decide (s = ([120, 111, 114] : List UInt8)) = false := by simpa using h1
 by_cases h2 : s = [97, 110, 100]
 ·subst h2
  simp only [Br,A8,Bk,Bn,B3,Bz,A7,Cc,Ca,Cj,Bl,A9,Bq,Bp,C6,A4,Bd,Bc,B6,A0,A1,ofOpt,Be,Bi,By,Bg,Cd,Nat.reduceLT,Nat.reduceEqDiff,Aa,Ab,Ac,Ae,Am,Ap,D8,K9,Dd,Tryz.f87]
  rfl
 have d2 : decide (s = ([97, 110, 100] : List UInt8)) = false := by simpa using h2
 by_cases h3 : s = [43]
 ·subst h3
  simp only [Br,A8,Bk,Bn,B3,Bz,A7,Cc,Ca,Cj,Bl,A9,Bq,Bp,C6,A4,Bd,Bc,B6,A0,A1,ofOpt,Be,Bi,By,Bg,Cd,Nat.reduceLT,Nat.reduceEqDiff,Aa,Ab,Ac,Ae,Am,Ap,D8,K9,Dd,Tryz.f87]
  rfl
 have d3 : decide (s = ([43] : List UInt8)) = false := by simpa using h3
 by_cases h4 : s = [45]
 ·subst h4
  simp only [Br,A8,Bk,Bn,B3,Bz,A7,Cc,Ca,Cj,Bl,A9,Bq,Bp,C6,A4,Bd,Bc,B6,A0,A1,ofOpt,Be,Bi,By,Bg,Cd,Nat.reduceLT,Nat.reduceEqDiff,Aa,Ab,Ac,Ae,Am,Ap,D8,K9,Dd,Tryz.f87]
  rfl
 have d4 : decide (s = ([45] : List UInt8)) = false := by simpa using h4
 by_cases h5 : s = [42]
 ·subst h5
  simp only [Br,A8,Bk,Bn,B3,Bz,A7,Cc,Ca,Cj,Bl,A9,Bq,Bp,C6,A4,Bd,Bc,B6,A0,A1,ofOpt,Be,Bi,By,Bg,Cd,Nat.reduceLT,Nat.reduceEqDiff,Aa,Ab,Ac,Ae,Am,Ap,D8,K9,Dd,Tryz.f87]
  rfl
 have d5 : decide (s = ([42] : List UInt8)) = false := by simpa using h5
 by_cases h6 : s = [47]
 ·subst h6
  simp only [Br,A8,Bk,Bn,B3,Bz,A7,Cc,Ca,Cj,Bl,A9,Bq,Bp,C6,A4,Bd,Bc,B6,A0,A1,ofOpt,Be,Bi,By,Bg,Cd,Nat.reduceLT,Nat.reduceEqDiff,Aa,Ab,Ac,Ae,Am,Ap,D8,K9,Dd,Tryz.f87]
  rfl
 have d6 : decide (s = ([47] : List UInt8)) = false := by simpa using h6
 by_cases h7 : s = [109, 111, 100]
 ·subst h7
  simp only [Br,A8,Bk,Bn,B3,Bz,A7,Cc,Ca,Cj,Bl,A9,Bq,Bp,C6,A4,Bd,Bc,B6,A0,A1,ofOpt,Be,Bi,By,Bg,Cd,Nat.reduceLT,Nat.reduceEqDiff,Aa,Ab,Ac,Ae,Am,Ap,D8,K9,Dd,Tryz.f87]
  rfl
 have d7 : decide (s = ([109, 111, 100] : List UInt8)) = false := by simpa using h7
 simp only [Br,A8,Bk,Bn,B3,Bz,A7,Cc,Ca,Cj,Bl,A9,Bq,Bp,Dk,A4,Bd,Bc,B6,A0,A1,ofOpt,Be,Bi,By,Bg,Cd,Nat.reduceLT,Nat.reduceEqDiff,Aa,Ab,Ac,Ae,Am,D8,K9,Dd,Tryz.f87,d0,d1,d2,d3,d4,d5,d6,d7]
 have e : Nr s = 5 := by unfold Nr; simp [h0, h1, h2, h3, h4, h5, h6, h7]
 rw [e]; rfl
end Go.Ax
noncomputable section
namespace Go.Ax
open Go.RowKit Go.Proofs
set_option maxRecDepth 100000
theorem Zk (b : Nat) : Cx Tryz.prog 30 (.ptr b 0) 5 = some (.ptr b 5) := by kernel_rfl
theorem ag2 : Ff Tryz.prog 2 = some false := by kernel_rfl
theorem ag9 : Ff Tryz.prog 9 = some false := by kernel_rfl
theorem ag4 : Ff Tryz.prog 4 = some false := by kernel_rfl
section
variable {S : St} {id kind pos : Nat} {n : Int} {name : List UInt8} {off : Bool} {kv : AV} (h : S.mem.get id = some (.box (exC kind pos n name off kv)))
include h
theorem lxN : Cv Tryz.prog S 2 (.ptr id 2) = some (.v (.int .i64 n)) := by simp [Cv, Dc, h, ag2, exC]
theorem Hr : Cv Tryz.prog S 9 (.ptr id 3) = some (.v (.string ⟨⟨name⟩⟩)) := by simp [Cv, Dc, h, ag9, exC, Cl]
theorem Nv : Cv Tryz.prog S 4 (.ptr id 4) = some (.v (.bool off)) := by simp [Cv, Dc, h, ag4, exC]
end
set_option maxHeartbeats 16000000 in
theorem binds_w (kind pos : Nat) (n : Int) (name : List UInt8) (off : Bool) (kv : AV) (kids : List PE) (S : St) : WC E6 86 [.agg (exC kind pos n name off kv)] S (fun r => ∃ S', r = .ret (Dp (Fm (.mk kind pos n name off kids))) S' ∧ Ej S S') := by
 refine Do Tryz.f86 (by kernel_rfl) (by kernel_rfl) (by kernel_rfl) (show (_ : Nat) ≤ _ from by show (_ : Nat) ≤ _; simp [Tryz.f86]) ?_
 obtain ⟨fn1, hf1⟩ := zV
 have g1 := Dq S (exC kind pos n name off kv)
 have k1 := Dj S (exC kind pos n name off kv)
 generalize hS1 : S.newBox (exC kind pos n name off kv) = S1 at g1 k1
 have l0 := ld3e g1
 have l2 := lxN g1
 have l3 := Hr g1
 by_cases h1 : kind = 1
 ·subst h1
  have e1 : (((1 : Nat) : Int) == 1) = true := rfl
  by_cases hn : n < 0
  ·have en : decide (n < 0) = true := by simpa using hn
   simp only [Br,A8,Bk,Bn,B3,Bz,A7,Cc,Ca,Cj,Bl,A9,Bq,B9,Bp,C6,A4,Bd,Bc,B6,A0,A1,Bm,B0,ofOpt,Be,B5,Bi,By,Bg,Cd,Dg,Ci,Nat.reduceLT,Nat.reduceEqDiff,Aa,Ab,Ac,Ae,Aj,Ak,Am,D8,Gn,Tryz.f86,hf1,hS1,l0,l2,l3,fe0,fe2,fe3,Cm,Cn,e1,en]
   exact ⟨_, by rw [show Fm (.mk 1 pos n name off kids) = 8 by simp [Fm, hn]]; rfl, k1⟩
  ·have en : decide (n < 0) = false := by simpa using hn
   simp only [Br,A8,Bk,Bn,B3,Bz,A7,Cc,Ca,Cj,Bl,A9,Bq,B9,Bp,C6,Dk,A4,Bd,Bc,B6,A0,A1,Bm,B0,ofOpt,Be,B5,Bi,By,Bg,Cd,Dg,Ci,Nat.reduceLT,Nat.reduceEqDiff,Aa,Ab,Ac,Ae,Aj,Ak,Am,D8,Gn,Tryz.f86,hf1,hS1,l0,l2,l3,fe0,fe2,fe3,Cm,Cn,e1,en]
   exact ⟨_, by rw [show Fm (.mk 1 pos n name off kids) = 10 by simp [Fm, hn]]; rfl, k1⟩
 by_cases h4 : kind = 4
 ·subst h4
  have e1 : (((4 : Nat) : Int) == 1) = false := rfl
  have e4 : (((4 : Nat) : Int) == 4) = true := rfl
  simp only [Br,A8,Bk,Bn,B3,Bz,A7,Cc,Ca,Cj,Bl,A9,Bq,B9,Bp,C6,Dk,A4,Bd,Bc,B6,A0,A1,Bm,B0,ofOpt,Be,B5,Bi,By,Bg,Cd,Dg,Ci,Nat.reduceLT,Nat.reduceEqDiff,Aa,Ab,Ac,Ae,Aj,Ak,Am,D8,Gn,Tryz.f86,hf1,hS1,l0,l2,l3,fe0,fe2,fe3,Cm,Cn,e1,e4]
  exact ⟨_, by rw [show Fm (.mk 4 pos n name off kids) = 8 by simp [Fm]]; rfl, k1⟩
 by_cases h10 : kind = 10
 ·subst h10
  have e1 : (((10 : Nat) : Int) == 1) = false := rfl
  have e4 : (((10 : Nat) : Int) == 4) = false := rfl
  have e10 : (((10 : Nat) : Int) == 10) = true := rfl
  simp only [Br,A8,Bk,Bn,B3,Bz,A7,Cc,Ca,Cj,Bl,A9,Bq,B9,Bp,C6,Dk,A4,Bd,Bc,B6,A0,A1,Bm,B0,ofOpt,Be,B5,Bi,By,Bg,Cd,Dg,Ci,Nat.reduceLT,Nat.reduceEqDiff,Aa,Ab,Ac,Ae,Aj,Ak,Am,D8,Gn,Tryz.f86,hf1,hS1,l0,l2,l3,fe0,fe2,fe3,Cm,Cn,e1,e4,e10]
  exact ⟨_, by rw [show Fm (.mk 10 pos n name off kids) = 8 by simp [Fm]]; rfl, k1⟩
 by_cases h5 : kind = 5
 ·subst h5
  have e1 : (((5 : Nat) : Int) == 1) = false := rfl
  have e4 : (((5 : Nat) : Int) == 4) = false := rfl
  have e10 : (((5 : Nat) : Int) == 10) = false := rfl
  have e5 : (((5 : Nat) : Int) == 5) = true := rfl
  simp only [Br,A8,Bk,Bn,B3,Bz,A7,Cc,Ca,Cj,Bl,A9,Bq,B9,Bp,C6,Dk,A4,Bd,Bc,B6,A0,A1,Bm,B0,ofOpt,Be,B5,Bi,By,Bg,Cd,Dg,Ci,Nat.reduceLT,Nat.reduceEqDiff,Aa,Ab,Ac,Ae,Aj,Ak,Am,D8,Gn,Tryz.f86,hf1,hS1,l0,l2,l3,fe0,fe2,fe3,Cm,Cn,e1,e4,e10,e5]
  exact ⟨_, by rw [show Fm (.mk 5 pos n name off kids) = 4 by simp [Fm]]; rfl, k1⟩
 by_cases h6 : kind = 6
 ·subst h6
  have e1 : (((6 : Nat) : Int) == 1) = false := rfl
  have e4 : (((6 : Nat) : Int) == 4) = false := rfl
  have e10 : (((6 : Nat) : Int) == 10) = false := rfl
  have e5 : (((6 : Nat) : Int) == 5) = false := rfl
  have e6 : (((6 : Nat) : Int) == 6) = true := rfl
  simp only [Br,A8,Bk,Bn,B3,Bz,A7,Cc,Ca,Cj,Bl,A9,Bq,B9,Bp,C6,Dk,A4,Bd,Bc,B6,A0,A1,Bm,B0,ofOpt,Be,B5,Bi,By,Bg,Cd,Dg,Ci,Nat.reduceLT,Nat.reduceEqDiff,Aa,Ab,Ac,Ae,Aj,Ak,Am,D8,Gn,Tryz.f86,hf1,hS1,l0,l2,l3,fe0,fe2,fe3,Cm,Cn,e1,e4,e10,e5,e6]
  refine WC.mono (qA name S1) ?_
  rintro _ rfl
  simp only [Bz,A7,Cc,Cj,Bl,A9,Bq,Bp,C8,A4,Bd,Bc,A0,A1,ofOpt,Bi,By,Bg,Cd,Nat.reduceLT,Nat.reduceEqDiff,Aa,Ab,Ac]
  exact ⟨_, by rw [show Fm (.mk 6 pos n name off kids) = Nr name by simp [Fm]], k1⟩
 by_cases h7 : kind = 7
 ·subst h7
  have e1 : (((7 : Nat) : Int) == 1) = false := rfl
  have e4 : (((7 : Nat) : Int) == 4) = false := rfl
  have e10 : (((7 : Nat) : Int) == 10) = false := rfl
  have e5 : (((7 : Nat) : Int) == 5) = false := rfl
  have e6 : (((7 : Nat) : Int) == 6) = false := rfl
  have e7 : (((7 : Nat) : Int) == 7) = true := rfl
  simp only [Br,A8,Bk,Bn,B3,Bz,A7,Cc,Ca,Cj,Bl,A9,Bq,B9,Bp,C6,Dk,A4,Bd,Bc,B6,A0,A1,Bm,B0,ofOpt,Be,B5,Bi,By,Bg,Cd,Dg,Ci,Nat.reduceLT,Nat.reduceEqDiff,Aa,Ab,Ac,Ae,Aj,Ak,Am,D8,Gn,Tryz.f86,hf1,hS1,l0,l2,l3,fe0,fe2,fe3,Cm,Cn,e1,e4,e10,e5,e6,e7]
  exact ⟨_, by rw [show Fm (.mk 7 pos n name off kids) = 0 by simp [Fm]]; rfl, k1⟩
 by_cases h8 : kind = 8
 ·subst h8
  have e1 : (((8 : Nat) : Int) == 1) = false := rfl
  have e4 : (((8 : Nat) : Int) == 4) = false := rfl
  have e10 : (((8 : Nat) : Int) == 10) = false := rfl
  have e5 : (((8 : Nat) : Int) == 5) = false := rfl
  have e6 : (((8 : Nat) : Int) == 6) = false := rfl
  have e7 : (((8 : Nat) : Int) == 7) = false := rfl
  have e8 : (((8 : Nat) : Int) == 8) = true := rfl
  simp only [Br,A8,Bk,Bn,B3,Bz,A7,Cc,Ca,Cj,Bl,A9,Bq,B9,Bp,C6,Dk,A4,Bd,Bc,B6,A0,A1,Bm,B0,ofOpt,Be,B5,Bi,By,Bg,Cd,Dg,Ci,Nat.reduceLT,Nat.reduceEqDiff,Aa,Ab,Ac,Ae,Aj,Ak,Am,D8,Gn,Tryz.f86,hf1,hS1,l0,l2,l3,fe0,fe2,fe3,Cm,Cn,e1,e4,e10,e5,e6,e7,e8]
  exact ⟨_, by rw [show Fm (.mk 8 pos n name off kids) = 1 by simp [Fm]]; rfl, k1⟩
 by_cases h9 : kind = 9
 ·subst h9
  have e1 : (((9 : Nat) : Int) == 1) = false := rfl
  have e4 : (((9 : Nat) : Int) == 4) = false := rfl
  have e10 : (((9 : Nat) : Int) == 10) = false := rfl
  have e5 : (((9 : Nat) : Int) == 5) = false := rfl
  have e6 : (((9 : Nat) : Int) == 6) = false := rfl
  have e7 : (((9 : Nat) : Int) == 7) = false := rfl
  have e8 : (((9 : Nat) : Int) == 8) = false := rfl
  have e9 : (((9 : Nat) : Int) == 9) = true := rfl
  simp only [Br,A8,Bk,Bn,B3,Bz,A7,Cc,Ca,Cj,Bl,A9,Bq,B9,Bp,C6,Dk,A4,Bd,Bc,B6,A0,A1,Bm,B0,ofOpt,Be,B5,Bi,By,Bg,Cd,Dg,Ci,Nat.reduceLT,Nat.reduceEqDiff,Aa,Ab,Ac,Ae,Aj,Ak,Am,D8,Gn,Tryz.f86,hf1,hS1,l0,l2,l3,fe0,fe2,fe3,Cm,Cn,e1,e4,e10,e5,e6,e7,e8,e9]
  exact ⟨_, by rw [show Fm (.mk 9 pos n name off kids) = 1 by simp [Fm]]; rfl, k1⟩
 by_cases h11 : kind = 11
 ·subst h11
  have e1 : (((11 : Nat) : Int) == 1) = false := rfl
  have e4 : (((11 : Nat) : Int) == 4) = false := rfl
  have e10 : (((11 : Nat) : Int) == 10) = false := rfl
  have e5 : (((11 : Nat) : Int) == 5) = false := rfl
  have e6 : (((11 : Nat) : Int) == 6) = false := rfl
  have e7 : (((11 : Nat) : Int) == 7) = false := rfl
  have e8 : (((11 : Nat) : Int) == 8) = false := rfl
  have e9 : (((11 : Nat) : Int) == 9) = false := rfl
  have e11 : (((11 : Nat) : Int) == 11) = true := rfl
  simp only [Br,A8,Bk,Bn,B3,Bz,A7,Cc,Ca,Cj,Bl,A9,Bq,B9,Bp,C6,Dk,A4,Bd,Bc,B6,A0,A1,Bm,B0,ofOpt,Be,B5,Bi,By,Bg,Cd,Dg,Ci,Nat.reduceLT,Nat.reduceEqDiff,Aa,Ab,Ac,Ae,Aj,Ak,Am,D8,Gn,Tryz.f86,hf1,hS1,l0,l2,l3,fe0,fe2,fe3,Cm,Cn,e1,e4,e10,e5,e6,e7,e8,e9,e11]
  exact ⟨_, by rw [show Fm (.mk 11 pos n name off kids) = 9 by simp [Fm]]; rfl, k1⟩
 have e1 : ((kind : Int) == 1) = false := by rw [beq_eq_false_iff_ne]; omega
 have e4 : ((kind : Int) == 4) = false := by rw [beq_eq_false_iff_ne]; omega
 have e10 : ((kind : Int) == 10) = false := by rw [beq_eq_false_iff_ne]; omega
 have e5 : ((kind : Int) == 5) = false := by rw [beq_eq_false_iff_ne]; omega
 have e6 : ((kind : Int) == 6) = false := by rw [beq_eq_false_iff_ne]; omega
 have e7 : ((kind : Int) == 7) = false := by rw [beq_eq_false_iff_ne]; omega
 have e8 : ((kind : Int) == 8) = false := by rw [beq_eq_false_iff_ne]; omega
 have e9 : ((kind : Int) == 9) = false := by rw [beq_eq_false_iff_ne]; omega
 have e11 : ((kind : Int) == 11) = false := by rw [beq_eq_false_iff_ne]; omega
 simp only [Br,A8,Bk,Bn,B3,Bz,A7,Cc,Ca,Cj,Bl,A9,Bq,B9,Bp,Dk,A4,Bd,Bc,B6,A0,A1,Bm,B0,ofOpt,Be,B5,Bi,By,Bg,Cd,Dg,Ci,Nat.reduceLT,Nat.reduceEqDiff,Aa,Ab,Ac,Ae,Aj,Ak,Am,D8,Gn,Tryz.f86,hf1,hS1,l0,l2,l3,fe0,fe2,fe3,Cm,Cn,e1,e4,e10,e5,e6,e7,e8,e9,e11]
 exact ⟨_, by rw [show Fm (.mk kind pos n name off kids) = 10 by simp [Fm, h1, h4, h10, h5, h6, h7, h8, h9, h11]]; rfl, k1⟩
def Q1 (e : PE) : Prop := ∀ (ys : List AV), RepE (.agg ys) e → ∀ S, 2 ≤ S.next → WC E6 17 [.agg ys] S (fun r => ∃ S', r = .ret (Cl (Ir e)) S' ∧ Ej S S')
theorem RepF.at : ∀ {es : List AV} {l : List PE}, RepF es l → ∀ (j : Nat) (h : j < es.length) (h2 : j < l.length), RepE es[j] l[j]
 | _, _, .cons a e r l h h2, 0, _, _ => h
 | _, _, .cons a e r l h h2, j + 1, k1, k2 => RepF.at h2 j (by simpa using k1) (by simpa using k2)
set_option maxHeartbeats 16000000 in
theorem Kx {kind pos : Nat} {n : Int} {name : List UInt8} {off : Bool} {kv : AV} {kids : List PE} (hk : RepK kv kids) (hlen : kids.length ≤ 2000000) (i least : Nat) (hok : ∀ e ∈ kids, Q1 e) (hz : Kr (Db kids) ≤ 1000000000) (S : St) (hn2 : 2 ≤ S.next) :
  WC E6 51 [.agg (exC kind pos n name off kv), .v (.int .i64 (i : Int)), .v (.int .i64 (least : Int))] S (fun r => ∃ S', r = .ret (Cl (kT (Db kids) i least)) S' ∧ Ej S S') := by
 refine Do Tryz.f51 (by kernel_rfl) (by kernel_rfl) (by kernel_rfl) (show (_ : Nat) ≤ _ from by show (_ : Nat) ≤ _; simp [Tryz.f51]) ?_
 obtain ⟨fn1, hf1⟩ := zY
 obtain ⟨fn2, hf2⟩ := fn6_86
 have g1 := Dq S (exC kind pos n name off kv)
 have k1 := Dj S (exC kind pos n name off kv)
 have lt1 : S.next < (S.newBox (exC kind pos n name off kv)).next := Nat.lt_succ_self _
 generalize hS1 : S.newBox (exC kind pos n name off kv) = S1 at g1 k1 lt1
 have l5 := Ol g1
 have ek : (Db kids)[i]? = (kids[i]?).map fun e => ⟨Ir e, Fm e, Wm e⟩ := by rw [Vj, List.getElem?_map]
 cases hk with
 | nil =>
  have hge : ((i : Int) ≥ 0) := by omega
  have hd : decide ((i : Int) ≥ 0) = true := decide_eq_true hge
  simp only [Br,A8,Bk,Bn,Bz,A7,Cc,Bl,A9,Bq,Bp,A4,Bd,Bc,B6,A0,A1,Bm,ofOpt,Be,B5,Bi,By,Bg,Cd,Ei,Nat.reduceLT,Nat.reduceAdd,Nat.reduceEqDiff,Aa,Ab,Ac,Ae,Am,D8,Tryz.f51,hS1,Cm,Cn,Zk,l5,Sg]
  exact ⟨_, rfl, k1⟩
 | row tok o es _ hf =>
  have hl := hf.len
  by_cases hi : i < kids.length
  ·have hie : i < es.length := by omega
   have hd : decide ((i : Int) ≥ (es.length : Int)) = false := decide_eq_false (by omega)
   have hr := hf.at i hie hi
   obtain ⟨ys, hy, hyl⟩ := hr.agg
   rw [hy] at hr
   have q1 := kF tok o es i hie ys hy
   have q2 := rH S1 ys hyl
   simp only [Br,A8,Bk,Bn,Bz,A7,Cc,Bl,A9,Bq,B9,Bp,Dk,A4,Bd,Bc,B6,A0,A1,Bm,B0,ofOpt,Be,B5,Bi,By,Bg,Cd,Ei,Nat.reduceLT,Nat.reduceAdd,Nat.reduceEqDiff,Aa,Ab,Ac,Ae,Aj,Ak,Am,D8,Tryz.f51,hf1,hS1,Cm,Cn,Zk,l5,Rt,hd,q1,q2]
   refine WC.mono (hok _ (List.getElem_mem hi) ys hr S1 (by omega)) ?_
   rintro _ ⟨S2, rfl, k2⟩
   have g2 : S2.mem.get S.next = some (.box (exC kind pos n name off (.sl tok o 6 es))) := (k2.2 _ lt1).trans g1
   have l6 := Ol g2
   have q3 := rH S2 ys hyl
   have hr' := hr
   obtain ⟨kd, ps, nn, nm, of, ks2, hkk⟩ : ∃ kd ps nn nm of ks2, kids[i] = .mk kd ps nn nm of ks2 := by cases h : kids[i]; exact ⟨_, _, _, _, _, _, rfl⟩
   rw [hkk] at hr'
   have e1 : (Db kids)[i]? = some ⟨Ir kids[i], Fm kids[i], Wm kids[i]⟩ := by rw [ek, List.getElem?_eq_getElem hi]; rfl
   have hzk := Qk (Db kids) i 11
   have e2 : kT (Db kids) i 11 = if Fm kids[i] < 11 then 40 :: (Ir kids[i] ++ [41]) else Ir kids[i] := by unfold kT; rw [e1]
   have hzt : (Ir kids[i]).length ≤ 1000000000 := by
    rw [e2] at hzk
    split at hzk
    ·simp only [List.length_cons,List.length_append] at hzk; omega
    ·omega
   cases hr' with
   | mk _ _ _ _ _ kv2 _ hk2 =>
   simp only [A8,Bk,A7,Bl,A9,Bq,B9,Bp,C8,A4,Bd,Bc,A0,A1,Bm,B0,ofOpt,Nat.reduceLT,Nat.reduceEqDiff,Aa,Ab,Ac,Aj,Ak,D8,hf2,Zk,l6,q1,q3]
   have hb := binds_w kd ps nn nm of kv2 ks2 S2
   rw [← hkk] at hb
   refine WC.mono hb ?_
   rintro _ ⟨S3, rfl, k3⟩
   have q4 := D3 [40] (Ir kids[i]) (by simp; omega)
   have q5 := D3 ([40] ++ Ir kids[i]) [41] (by simp; omega)
   have eT : kT (Db kids) i least = if Fm kids[i] < least then 40 :: (Ir kids[i] ++ [41]) else Ir kids[i] := by unfold kT; rw [e1]
   rw [eT]
   by_cases hb : Fm kids[i] < least
   ·have d1 : decide (((Fm kids[i] : Nat) : Int) < (least : Int)) = true := decide_eq_true (by omega)
    simp only [Br,A8,Bk,Bn,Bz,A7,Cc,Bl,A9,Bq,Bp,C8,C6,A4,Bd,Bc,A0,A1,ofOpt,Be,B5,Bi,By,Bg,Cd,Dg,Nat.reduceLT,Nat.reduceEqDiff,Aa,Ab,Ac,Am,D8,Dd,d1,q4,q5,Dp,Cl]
    exact ⟨_, by rw [if_pos hb]; rfl, (k1.trans k2).trans k3⟩
   ·have d1 : decide (((Fm kids[i] : Nat) : Int) < (least : Int)) = false := decide_eq_false (by omega)
    simp only [Br,A8,Bk,Bn,Bz,A7,Bl,A9,Bq,Bp,C8,Dk,A4,Bd,Bc,A0,A1,ofOpt,Be,B5,Bi,By,Bg,Cd,Dg,Nat.reduceLT,Nat.reduceEqDiff,Aa,Ab,Ac,Am,D8,Uf,Dd,d1,Dp,Cl]
    exact ⟨_, by rw [if_neg hb], (k1.trans k2).trans k3⟩
  ·have hd : decide ((i : Int) ≥ (es.length : Int)) = true := decide_eq_true (by omega)
   have eT : kT (Db kids) i least = [] := by unfold kT; rw [ek, List.getElem?_eq_none (by omega)]; rfl
   rw [eT]
   simp only [Br,A8,Bk,Bn,Bz,A7,Cc,Bl,A9,Bq,Bp,C6,A4,Bd,Bc,B6,A0,A1,Bm,ofOpt,Be,B5,Bi,By,Bg,Cd,Ei,Nat.reduceLT,Nat.reduceAdd,Nat.reduceEqDiff,Aa,Ab,Ac,Ae,Am,D8,Tryz.f51,hS1,Cm,Cn,Zk,l5,Rt,hd]
   exact ⟨_, rfl, k1⟩
end Go.Ax
noncomputable section
namespace Go.Ax
open Go.RowKit Go.Proofs
set_option maxRecDepth 100000
noncomputable def F6 : Code → Option Code
 | .loop c => some c
 | .seq a b => match F6 a with
  | some x => some x
  | none => F6 b
 | .cond _ a b => match F6 a with
  | some x => some x
  | none => F6 b
 | .block _ c => F6 c
 | _ => none
def V0 (lo : Nat) (S : St) (a : AV) (es : List AV) : Prop := (a = .nils ∧ es = []) ∨ ∃ tok, 2 ≤ tok ∧ lo ≤ tok ∧ tok < S.next ∧ a = .sl tok 0 1 es ∧ S.mem.get tok = some (.tip es.length)
theorem V0.keep {lo : Nat} {S S' : St} {a : AV} {es : List AV} (h : V0 lo S a es) (k : Ej S S') : V0 lo S' a es := by
 rcases h with h | ⟨tok, h1, h2, h3, h4, h5⟩
 ·exact .inl h
 ·exact .inr ⟨tok, h1, h2, Nat.lt_of_lt_of_le h3 k.1, h4, by rw [k.2 tok h3]; exact h5⟩
theorem el69 : Hv Tryz.prog 69 = some (none, 9) := by kernel_rfl
theorem un69 : Tryz.prog.underlying 69 = some (.slice 9) := by kernel_rfl
theorem i9 : (Tryz.prog.info? 9).map (fun i => (i.zero, i.size, i.bytes)) = some (some (.string ⟨#[]⟩), 1, 16) := by kernel_rfl
theorem sz9 : Fd Tryz.prog 9 = some 1 := by kernel_rfl
theorem zr9 : Kt Tryz.prog 9 = some (.v (.string ⟨#[]⟩)) := by kernel_rfl
theorem xG (x : List UInt8) : Dl Tryz.prog 69 1 [(0, .v (.string ⟨⟨x⟩⟩))] = some (.sl 1 0 1 [.v (.string ⟨⟨x⟩⟩)]) := by
 have h1 : (AV.v (.string ⟨⟨x⟩⟩)).noTup = true := rfl
 simp [Dl, el69, sz9, zr9, h1, AV.cells]
theorem app69 (S : St) (a b : AV) : Gv E6 S 69 69 a b = Ez Tryz.prog S 69 69 a b := rfl
theorem mT {lo : Nat} {S : St} {a : AV} {es : List AV} (h : V0 lo S a es) (hn : 2 ≤ S.next) (hlo : lo ≤ S.next) (x : List UInt8) (hl : es.length ≤ 2000000) :
  ∃ S', Gv E6 S 69 69 a (.sl 1 0 1 [.v (.string ⟨⟨x⟩⟩)]) = some (.sl S.next 0 1 (es ++ [.v (.string ⟨⟨x⟩⟩)]), S') ∧ V0 lo S' (.sl S.next 0 1 (es ++ [.v (.string ⟨⟨x⟩⟩)])) (es ++ [.v (.string ⟨⟨x⟩⟩)]) ∧ S.next ≤ S'.next ∧ ∀ id, id < lo → S'.mem.get id = S.mem.get id := by
 obtain ⟨i, hi, hz0, hz1, hz2⟩ := Gg i9
 have hb1 : (es.length + 1) * 16 ≤ 140737488355328 := by omega
 have hb2 : es.length + 1 ≤ 9223372036854775807 := by omega
 rw [app69]
 rcases h with ⟨rfl, rfl⟩ | ⟨tok, h1, h2, h3, rfl, h5⟩
 ·refine ⟨S.grown 1 1, ?_, .inr ⟨S.next, hn, hlo, Nat.lt_succ_self _, rfl, ?_⟩, Nat.le_succ _, fun id hid => ?_⟩
  ·simp [Ez, el69, hi, hz0, hz1, hz2, Kq, un69, Value.cells]
  ·show (S.mem.set S.next _).get S.next = _
   rw [T.get_set, if_pos rfl]; rfl
  ·show (S.mem.set S.next _).get id = _
   rw [T.get_set, if_neg (by omega)]
 ·obtain ⟨k, rfl⟩ : ∃ k, tok = k + 2 := ⟨tok - 2, by omega⟩
  refine ⟨S.grown (k + 2) ((es ++ [AV.v (.string ⟨⟨x⟩⟩)]).length * 1), ?_, .inr ⟨S.next, hn, hlo, Nat.lt_succ_self _, rfl, ?_⟩, Nat.le_succ _, fun id hid => ?_⟩
  ·simp [Ez, el69, hi, hz0, hz1, hz2, Kq, un69, Value.cells, L8, h5, hb1, hb2]
  ·show ((S.mem.set (k + 2) none).set S.next _).get S.next = _
   rw [T.get_set, if_pos rfl, Nat.mul_one]
  ·show ((S.mem.set (k + 2) none).set S.next _).get id = _
   rw [T.get_set, if_neg (by omega), T.get_set, if_neg (by omega)]
theorem X2 : ∀ (ws : List (List UInt8)), R5 (ws.map Cl) = some ws
 | [] => rfl
 | w :: r => by
  show (match R5 (r.map Cl) with | some l => some (w :: l) | none => none) = _
  rw [X2 r]
theorem nO {lo : Nat} {S : St} {a : AV} {ws : List (List UInt8)} (h : V0 lo S a (ws.map Cl)) (sep : List UInt8) (hl : ws.length ≤ 1000000) (hz : (Lib.join ws sep).length ≤ 1000000000) : WC E6 88 [a, .v (.string ⟨⟨sep⟩⟩)] S (fun r => r = .ret (Cl (Lib.join ws sep)) S) := by
 refine Lv (g := Fp Wn) (by kernel_rfl) ?_
 rcases h with ⟨rfl, h2⟩ | ⟨tok, _, _, _, rfl, _⟩
 ·have : ws = [] := by simpa using h2
  subst this
  rfl
 ·have e : Wn [.sl tok 0 1 (ws.map Cl), .v (.string ⟨⟨sep⟩⟩)] = some (Cl (Lib.join ws sep)) := by
   unfold Wn
   simp only [X2]
   rw [if_pos ⟨hl, hz⟩]
  show Fp Wn _ S = _
  unfold Fp
  rw [e]
noncomputable def nN : Code := (F6 (Tryz.f54.body.getD .skip)).getD .skip
theorem kT_zero (ks : List KI) (j : Nat) (h : j < ks.length) : kT ks j 0 = ks[j].text := by
 unfold kT
 rw [List.getElem?_eq_getElem h]
 simp
set_option maxHeartbeats 16000000 in
theorem rJ {kind pos : Nat} {n : Int} {name : List UInt8} {off : Bool} {kv : AV} {kids : List PE} (hk : RepK kv kids) (hlen : kids.length ≤ 2000000) (hok : ∀ e ∈ kids, Q1 e) (hz : Kr (Db kids) ≤ 1000000000) (S1 : St) (b : Nat) (hb : b < S1.next) (hn : 2 ≤ S1.next) :
  ∀ (m j : Nat) (t : T AV) (S : St) (a : AV), j + m = kids.length → t.get 1 = some (.ptr b 0) → t.get 3 = some a → t.get 7 = some (.v (.int .i64 (kids.length : Int))) → t.get 8 = some (.v (.int .i64 (j : Int))) →
   S.mem.get b = some (.box (exC kind pos n name off kv)) → S1.next ≤ S.next → V0 S1.next S a ((((Db kids).map (·.text)).take j).map Cl) → (∀ id, id < S1.next → S.mem.get id = S1.mem.get id) →
   WX E6 20 (.loop nN) ⟨t, []⟩ S (fun r => ∃ t' S' a', r = .out (.exit 0) ⟨t', []⟩ S' ∧ t'.get 3 = some a' ∧ V0 S1.next S' a' (((Db kids).map (·.text)).map Cl) ∧ Ej S1 S')
 | 0, j, t, S, a, hj, h1, h3, h7, h8, hbx, hS, hrow, hkeep => by
  refine Ew (Eg ?_)
  have hlt : decide ((j : Int) < (kids.length : Int)) = false := decide_eq_false (by omega)
  simp only [B8,Br,A8,Bk,Bn,B3,Dh,A7,Fk,Bl,A9,Bq,Bp,Dk,A4,Bd,Bc,A0,ofOpt,B5,Dg,Nat.reduceLT,Nat.reduceEqDiff,Aa,Ab,Ac,Ae,Am,D8,nN,F6,Tryz.f54,h1,h3,h7,h8,hlt]
  refine ⟨_, _, _, rfl, by simp only [A0,Nat.reduceEqDiff,Ab]; exact h3, ?_, hS, hkeep⟩
  have e : ((Db kids).map (·.text)).take j = (Db kids).map (·.text) := List.take_of_length_le (by rw [List.length_map, Om]; omega)
  rw [e] at hrow
  exact hrow
 | m + 1, j, t, S, a, hj, h1, h3, h7, h8, hbx, hS, hrow, hkeep => by
  refine Ew (Eg ?_)
  obtain ⟨fn1, hf1⟩ := gG
  have hlt : decide ((j : Int) < (kids.length : Int)) = true := decide_eq_true (by omega)
  have l0 : Cv Tryz.prog S 30 (.ptr b 0) = some (.agg (exC kind pos n name off kv)) := ld30 hbx rfl
  simp only [B8,Br,A8,Bk,Bn,B3,Dh,A7,Fk,Bl,A9,Bq,B9,Bp,C6,A4,Bd,Bc,A0,Bm,B0,ofOpt,Be,B5,Dg,Nat.reduceLT,Nat.reduceEqDiff,Aa,Ab,Ac,Ae,Aj,Ak,Am,D8,nN,F6,Tryz.f54,h1,h3,h7,h8,hlt,hf1,l0]
  refine WC.mono (Kx hk hlen j 0 hok hz S (by omega)) ?_
  rintro _ ⟨S2, rfl, k2⟩
  have hjl : j < (Db kids).length := by rw [Om]; omega
  rw [kT_zero _ _ hjl]
  have q1 := xG (Db kids)[j].text
  obtain ⟨S3, q2, hrow3, hn3, hk3⟩ := mT (hrow.keep k2) (by have := k2.1; omega) (Nat.le_trans hS k2.1) (Db kids)[j].text (by rw [List.length_map, List.length_take]; omega)
  have w1 : IntKind.i64.wrap ((j : Int) + 1) = ((j + 1 : Nat) : Int) := H6 (j := 1) (by omega)
  simp only [B4,A8,A7,Ca,Bl,A9,Bq,Bp,C8,A4,Bd,Bc,A0,Bm,ofOpt,ofOptS,Be,Bt,B5,Ds,Nat.reduceLT,Nat.reduceEqDiff,Aa,Ab,Ac,Am,D8,Cl,h8,q1,q2,w1]
  refine rJ (kind := kind) (pos := pos) (n := n) (name := name) (off := off) (kv := kv) (kids := kids) hk hlen hok hz S1 b hb hn m (j + 1) _ S3 (.sl S2.next 0 1 (((((Db kids).map (·.text)).take j).map Cl) ++ [.v (.string ⟨⟨(Db kids)[j].text⟩⟩)])) (by omega) (by simp only [A0,Nat.reduceEqDiff,Ab]; exact h1) (by simp only [A0,Nat.reduceEqDiff,Ab,Aa]) (by simp only [A0,Nat.reduceEqDiff,Ab]; exact h7) (by simp only [A0,Nat.reduceEqDiff,Ab,Aa]) ?_ ?_ ?_ ?_
  ·rw [hk3 b hb, k2.2 b (by omega)]; exact hbx
  ·exact Nat.le_trans hS (Nat.le_trans k2.1 hn3)
  ·have e : ((((Db kids).map (·.text)).take (j + 1)).map Cl) = ((((Db kids).map (·.text)).take j).map Cl) ++ [.v (.string ⟨⟨(Db kids)[j].text⟩⟩)] := by
    rw [List.take_add_one, List.map_append, List.getElem?_map, List.getElem?_eq_getElem hjl]; rfl
   rw [e]; exact hrow3
  ·intro id hid
   rw [hk3 id hid, k2.2 id (by omega)]; exact hkeep id hid
set_option maxHeartbeats 16000000 in
theorem Zc {kind pos : Nat} {n : Int} {name : List UInt8} {off : Bool} {kv : AV} {kids : List PE} (hk : RepK kv kids) (hlen : kids.length ≤ 1000000) (hok : ∀ e ∈ kids, Q1 e) (hz : Kr (Db kids) ≤ 1000000000) (S : St) (hn2 : 2 ≤ S.next) :
  WC E6 54 [.agg (exC kind pos n name off kv)] S (fun r => ∃ S', r = .ret (Cl (My (Db kids))) S' ∧ Ej S S') := by
 refine Do Tryz.f54 (by kernel_rfl) (by kernel_rfl) (by kernel_rfl) (show (_ : Nat) ≤ _ from by show (_ : Nat) ≤ _; simp [Tryz.f54]) ?_
 obtain ⟨fn1, hf1⟩ := oD
 have g1 := Dq S (exC kind pos n name off kv)
 have k1 := Dj S (exC kind pos n name off kv)
 have lt1 : S.next < (S.newBox (exC kind pos n name off kv)).next := Nat.lt_succ_self _
 generalize hS1 : S.newBox (exC kind pos n name off kv) = S1 at g1 k1 lt1
 have l5 := Ol g1
 have lk : Ie Tryz.prog S1 28 kv = some kids.length := by
  cases hk with
  | nil => exact Sg S1
  | row tok o es _ hf => rw [Rt]; rw [hf.len]
 simp only [A8,Bk,B3,D1,A7,Bl,A9,Bq,Bp,A4,Bd,Bc,B6,A0,A1,Bm,ofOpt,Be,Nat.reduceLT,Nat.reduceEqDiff,Aa,Ab,Ac,Ae,D8,Tryz.f54,hS1,Cm,Cn,Zk,l5,lk]
 refine WX.mono (rJ (kind := kind) (pos := pos) (n := n) (name := name) (off := off) (kv := kv) (kids := kids) hk (by omega) hok hz S1 S.next lt1 (Nat.le_trans hn2 k1.1) kids.length 0 _ S1 .nils (by omega) (by simp [T.get_set]) (by simp [T.get_set]) (by simp [T.get_set]) (by simp [T.get_set]) g1 (Nat.le_refl _) (.inl ⟨rfl, by simp⟩) (fun _ _ => rfl)) ?_
 rintro _ ⟨t', S', a', rfl, h3, hrow, hkp⟩
 have hj := On (Db kids)
 simp only [A8,Bk,A7,Fk,Gr,A9,Bq,B9,Bp,A4,Bd,Bc,A0,Bm,B0,ofOpt,Be,Nat.reduceLT,Aa,Ac,Aj,Ak,h3,hf1]
 refine WC.mono (nO hrow [44, 32] (by rw [List.length_map, Om]; exact hlen) (by unfold My at hj; omega)) ?_
 rintro _ rfl
 simp only [Bz,A7,Bl,A9,Bq,Bp,C8,A4,Bd,Bc,A0,ofOpt,Bi,By,Bg,Cd,Nat.reduceLT,Nat.reduceEqDiff,Aa,Ab,Ac]
 exact ⟨_, rfl, k1.trans hkp⟩
end Go.Ax
