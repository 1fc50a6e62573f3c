/-
  Code and functions made ready: that their runs are the slow ones, and so the model's.
-/
import Derived.Test.YtjgknelmjdallaaGreatDoorPlZa
noncomputable section
namespace Go.Ax
open Go.RowKit
set_option linter.unusedVariables false
set_option linter.unusedSimpArgs false

theorem Yb {E : Env} {D : I4} {callK : Ep} {rec : Nat → Code → Fr → St → O} (hE : E.Ok) (hD : N0 E D) (hC : ∀ base w0, Jv E base w0 callK) (hR : CodeOk E rec) : CodeOk E (Ew E D rec callK) := by
  have loop : ∀ (base : Nat) (w0 : World) (Q : Exit → Act → World → Prop) (n : Nat) (c : Code) (γ : Gh) (S : St) (w : World) (f : Fr) (act : Act), SR base w0 γ S w → AR γ w n f act → GR γ w E.G →
      I3 base w0 n γ S w Q (Ew E D rec callK n (.loop c) f S) → LWp E.P c Q act w := by
    intro base w0 Q n c γ S w f act hS ha hg hH
    refine LWp.round (hR.code base w0 _ n c γ S w f act hS ha hg ?_)
    unfold Ew at hH
    simp only at hH
    split at hH
    · rename_i f' S' hr
      rw [hr]
      intro γ' act' w' k1 k2 k3
      exact hR.loop base w0 Q n c γ' S' w' f' act' k1 k3 (hg.mono k2.ev) (hH.later k2)
    · rename_i r hr
      cases hst : rec n c f S with
      | fail => rw [hst] at hH; exact hH.elim
      | out e f' S' =>
        rw [hst] at hH
        intro γ' act' w' k1 k2 k3
        have := hH γ' act' w' k1 k2 k3
        cases e with
        | normal => exact absurd hst (hr f' S')
        | exit id => exact this
        | ret => exact this
        | pan a => exact this
  refine ⟨fun base w0 Q n c γ S w f act hS ha hg hH => ?_, loop⟩
  cases c with
  | skip => exact wp_skip (hH γ act w hS (.refl _ _ _) ha)
  | label l => exact wp_label (hH γ act w hS (.refl _ _ _) ha)
  | region id ops draw =>
    cases draw with
    | false => exact wp_region_list (Pz hE (hC base w0) _ γ S w f act hS ha hg hH)
    | true => exact hD base w0 Q _ (hC base w0) n id ops γ S w f act hS ha hg hH
  | seq x y =>
    refine wp_seq (hR.code base w0 _ n x γ S w f act hS ha hg ?_)
    unfold Ew at hH
    simp only at hH
    split at hH
    · rename_i f' S' hr
      rw [hr]
      intro γ' act' w' k1 k2 k3
      exact hR.code base w0 Q n y γ' S' w' f' act' k1 k3 (hg.mono k2.ev) (hH.later k2)
    · rename_i r hr
      cases hst : rec n x f S with
      | fail => rw [hst] at hH; exact hH.elim
      | out e f' S' =>
        rw [hst] at hH
        intro γ' act' w' k1 k2 k3
        have := hH γ' act' w' k1 k2 k3
        cases e with
        | normal => exact absurd hst (hr f' S')
        | exit id => exact this
        | ret => exact this
        | pan a => exact this
  | cond c x y =>
    unfold Ew at hH
    simp only at hH
    split at hH
    · rename_i hc
      have hv := Fo ha.tmps hg hc
      generalize hq : act.eval c = q at hv
      cases hv
      exact wp_cond_true hq (hR.code base w0 Q n x γ S w f act hS ha hg hH)
    · rename_i hc
      have hv := Fo ha.tmps hg hc
      generalize hq : act.eval c = q at hv
      cases hv
      exact wp_cond_false hq (hR.code base w0 Q n y γ S w f act hS ha hg hH)
    · exact hH.elim
  | block id c =>
    refine wp_block (hR.code base w0 _ n c γ S w f act hS ha hg ?_)
    unfold Ew at hH
    simp only at hH
    split at hH
    · rename_i id' f' S' hr
      rw [hr]
      intro γ' act' w' k1 k2 k3
      show if id' = id then Q .normal act' w' else Q (.exit id') act' w'
      split
      · rename_i he
        rw [if_pos he] at hH
        exact hH γ' act' w' k1 k2 k3
      · rename_i he
        rw [if_neg he] at hH
        exact hH γ' act' w' k1 k2 k3
    · rename_i r hr
      cases hst : rec n c f S with
      | fail => rw [hst] at hH; exact hH.elim
      | out e f' S' =>
        rw [hst] at hH
        intro γ' act' w' k1 k2 k3
        have := hH γ' act' w' k1 k2 k3
        cases e with
        | normal => exact this
        | exit id' => exact absurd hst (hr id' f' S')
        | ret => exact this
        | pan a => exact this
  | loop c => exact (loop base w0 Q n c γ S w f act hS ha hg hH).loop
  | exit id => exact wp_exit (hH γ act w hS (.refl _ _ _) ha)
  | ret => exact wp_ret (hH γ act w hS (.refl _ _ _) ha)
  | rangeFunc => exact hH.elim
  | scope => exact hH.elim
  | goto => exact hH.elim
  | refuse => exact hH.elim

def Gv (E : Env) (D : I4) (ck : Ep) : Nat → Nat → Code → Fr → St → O :=
  Nat.rec (fun _ _ _ _ => .fail) (fun _ ih => Ew E D ih ck)
theorem P0 {E : Env} {D : I4} {ck : Ep} (hE : E.Ok) (hD : N0 E D) (hC : ∀ base w0, Jv E base w0 ck) : ∀ m, CodeOk E (Gv E D ck m)
  | 0 => ⟨fun _ _ _ _ _ _ _ _ _ _ _ _ _ h => h.elim, fun _ _ _ _ _ _ _ _ _ _ _ _ _ h => h.elim⟩
  | m + 1 => Yb hE hD hC (P0 hE hD hC m)
theorem Ws {E : Env} {D : I4} {ck : Ep} : ∀ (m n : Nat) (c : Code) (f : Fr) (S : St), Gv E D ck m n c f S ≠ .fail → Gv E D ck (m + 1) n c f S = Gv E D ck m n c f S
  | 0, n, c, f, S, h => absurd rfl h
  | m + 1, n, c, f, S, h => by
    have ih := Ws (E := E) (D := D) (ck := ck) m
    have e1 : ∀ m n c f S, Gv E D ck (m + 1) n c f S = Ew E D (Gv E D ck m) ck n c f S := fun _ _ _ _ _ => rfl
    rw [e1] at h ⊢
    rw [e1 m]
    have sub : ∀ (c : Code) (f : Fr) (S : St) (r : O), Gv E D ck m n c f S = r → r ≠ .fail → Gv E D ck (m + 1) n c f S = r := fun c f S r hr hne => (ih n c f S (by rw [hr]; exact hne)).trans hr
    cases c with
    | seq a b =>
      simp only [Ew] at h ⊢
      cases hr : Gv E D ck m n a f S with
      | fail => rw [hr] at h; exact absurd rfl h
      | out e f' S' =>
        rw [sub _ _ _ _ hr (fun e => by cases e)]
        rw [hr] at h
        cases e with
        | normal => exact ih n b f' S' h
        | _ => rfl
    | loop a =>
      simp only [Ew] at h ⊢
      cases hr : Gv E D ck m n a f S with
      | fail => rw [hr] at h; exact absurd rfl h
      | out e f' S' =>
        rw [sub _ _ _ _ hr (fun e => by cases e)]
        rw [hr] at h
        cases e with
        | normal => exact ih n (.loop a) f' S' h
        | _ => rfl
    | block id a =>
      simp only [Ew] at h ⊢
      cases hr : Gv E D ck m n a f S with
      | fail => rw [hr] at h; exact absurd rfl h
      | out e f' S' => rw [sub _ _ _ _ hr (fun e => by cases e)]
    | cond x a b =>
      simp only [Ew] at h ⊢
      split at h
      · exact ih n a f S h
      · exact ih n b f S h
      · exact absurd rfl h
    | region id ops dr => cases dr <;> rfl
    | _ => rfl
theorem Tn {E : Env} {D : I4} {ck : Ep} {m m' n : Nat} {c : Code} {f : Fr} {S : St} (hm : m ≤ m') (h : Gv E D ck m n c f S ≠ .fail) : Gv E D ck m' n c f S = Gv E D ck m n c f S := by
  induction hm with
  | refl => rfl
  | step hm ih => rw [Ws _ _ _ _ _ (by rw [ih]; exact h), ih]

def Nh (k : Option Bx) : Bx := Option.rec (motive := fun _ => Bx) Ol (fun k => k) k
def thenB (x k : Bx) : Bx := ⟨fun ck t d S => Hy k.c ck (x.c ck t d S)⟩
def Wm (x : Bx) (k : Option Bx) : Bx := Option.rec (motive := fun _ => Bx) x (fun k => thenB x k) k
def exitB (id : Nat) : Bx := ⟨fun _ t d S => .out (.exit id) ⟨t, d⟩ S⟩
def retB : Bx := ⟨fun _ t d S => .out .ret ⟨t, d⟩ S⟩
def hP (a b : Bx) (v : AV) : Bx := SV.rec (motive := fun _ => Bx) (fun c => Bool.rec (motive := fun _ => Bx) b a c) (fun _ _ => J2) (fun _ => J2) J2 v.sv
def condB (g : GB) (a b : Bx) : Bx := ⟨fun ck t d S => Option.rec (motive := fun _ => O) .fail (fun v => (hP a b v).c ck t d S) (g.g t)⟩
def blkX (id : Nat) (r : O) : O := O.rec (motive := fun _ => O) (fun e f S => Ex.rec (motive := fun _ => O) (.out .normal f S) (fun i => Bool.rec (motive := fun _ => O) (.out (.exit i) f S) (.out .normal f S) (Nat.beq i id)) (.out .ret f S) (fun a => .out (.pan a) f S) e) .fail r
def blockB (id : Nat) (x : Bx) : Bx := ⟨fun ck t d S => blkX id (x.c ck t d S)⟩
def mD (ih : T AV → List Dfr → St → O) (r : O) : O := O.rec (motive := fun _ => O) (fun e f S => Ex.rec (motive := fun _ => O) (ih f.tmps f.dfr S) (fun i => .out (.exit i) f S) (.out .ret f S) (fun a => .out (.pan a) f S) e) .fail r
def Sv (x : Bx) (ck : Ep) (j : Nat) : T AV → List Dfr → St → O := Nat.rec (motive := fun _ => T AV → List Dfr → St → O) (fun _ _ _ => .fail) (fun _ ih t d S => mD ih (x.c ck t d S)) j
def bB : Nat := 5000
def fJ (x : Bx) : Bx := ⟨fun ck t d S => Sv x ck bB t d S⟩
theorem loopB_c (x : Bx) (ck : Ep) (t : T AV) (d : List Dfr) (S : St) : (fJ x).c ck t d S = Sv x ck bB t d S := rfl
def Hu (E : Env) (n : Nat) (c : Code) : Option Bx → Bx := Code.rec (motive := fun _ => Option Bx → Bx)
  (fun k => Nh k)
  (fun _ ops dr k => Bool.rec (motive := fun _ => Bx) (lO E n ops ops.toList (Nh k)) (Rb E n ops (Nh k)) dr)
  (fun _ _ ia ib k => ia (some (ib k)))
  (fun x _ _ ia ib k => Wm (condB (opG E.G x) (ia none) (ib none)) k)
  (fun id _ ia k => Wm (blockB id (ia none)) k)
  (fun _ ia k => Wm (fJ (ia none)) k)
  (fun _ _ _ _ _ _ _ => J2)
  (fun id _ => exitB id)
  (fun _ _ _ => J2)
  (fun _ k => Nh k)
  (fun _ _ => J2)
  (fun _ => retB)
  (fun _ _ => J2) c
def Pq (k : Option Bx) (ck : Ep) (r : O) : O := match k with
  | none => r
  | some k => Hy k.c ck r
theorem Vq (k : Option Bx) (ck : Ep) : Pq k ck .fail = .fail := by cases k <;> rfl
theorem Re (k : Option Bx) (ck : Ep) (r : O) : Hy (Nh k).c ck r = Pq k ck r := by
  cases k with
  | none => exact Nv ck r
  | some k => rfl
theorem tailB_c (x : Bx) (k : Option Bx) (ck : Ep) (t : T AV) (d : List Dfr) (S : St) : (Wm x k).c ck t d S = Pq k ck (x.c ck t d S) := by cases k <;> rfl
def COk (E : Env) (n : Nat) (ck : Ep) (c : Code) : Prop := ∀ (k : Option Bx) (t : T AV) (d : List Dfr) (S : St), (Hu E n c k).c ck t d S = .fail ∨ ∃ m, Pq k ck (Gv E (Dr E) ck m n c ⟨t, d⟩ S) = (Hu E n c k).c ck t d S
theorem X5 {E : Env} {n : Nat} {ck : Ep} {c : Code} {x : Bx} (h : ∀ (t : T AV) (d : List Dfr) (S : St), x.c ck t d S = .fail ∨ ∃ m, Gv E (Dr E) ck m n c ⟨t, d⟩ S = x.c ck t d S) (k : Option Bx) (t : T AV) (d : List Dfr) (S : St) :
    (Wm x k).c ck t d S = .fail ∨ ∃ m, Pq k ck (Gv E (Dr E) ck m n c ⟨t, d⟩ S) = (Wm x k).c ck t d S := by
  rw [tailB_c]
  rcases h t d S with h | ⟨m, h⟩
  · rw [h, Vq]; exact .inl rfl
  · exact .inr ⟨m, by rw [h]⟩
theorem L8 {E : Env} {n : Nat} {ck : Ep} (hck : CkF E ck) : ∀ c : Code, COk E n ck c
  | .skip => fun k t d S => .inr ⟨1, (Re k ck _).symm⟩
  | .label l => fun k t d S => .inr ⟨1, (Re k ck _).symm⟩
  | .region id ops false => fun k t d S => by
    have h := fB (E := E) (n := n) (ops := ops) hck (Nh k) ops.toList t d S
    rw [Re] at h
    show (lO E n ops ops.toList (Nh k)).c ck t d S = .fail ∨ _
    rcases h with h | h
    · exact .inl h
    · exact .inr ⟨1, h.symm⟩
  | .region id ops true => fun k t d S => by
    have h := nY (E := E) (n := n) (ops := ops) hck (Nh k) t d S
    rw [Re] at h
    show (Rb E n ops (Nh k)).c ck t d S = .fail ∨ _
    rcases h with h | h
    · exact .inl h
    · exact .inr ⟨1, h.symm⟩
  | .seq a b => fun k t d S => by
    have ha := L8 (n := n) hck a (some (Hu E n b k)) t d S
    show (Hu E n a (some (Hu E n b k))).c ck t d S = .fail ∨ ∃ m, _ = (Hu E n a (some (Hu E n b k))).c ck t d S
    rcases ha with ha | ⟨m1, ha⟩
    · exact .inl ha
    · rw [← ha]
      cases hr : Gv E (Dr E) ck m1 n a ⟨t, d⟩ S with
      | fail => exact .inl rfl
      | out e f' S' =>
        have hne : Gv E (Dr E) ck m1 n a ⟨t, d⟩ S ≠ .fail := by rw [hr]; exact fun e => by cases e
        cases e with
        | normal =>
          have hb := L8 (n := n) hck b k f'.tmps f'.dfr S'
          show (Hu E n b k).c ck f'.tmps f'.dfr S' = .fail ∨ ∃ m, _ = (Hu E n b k).c ck f'.tmps f'.dfr S'
          rcases hb with hb | ⟨m2, hb⟩
          · exact .inl hb
          · rw [← hb]
            by_cases hf : Gv E (Dr E) ck m2 n b ⟨f'.tmps, f'.dfr⟩ S' = .fail
            · rw [hf, Vq]; exact .inl rfl
            · refine .inr ⟨max m1 m2 + 1, ?_⟩
              have e1 : Gv E (Dr E) ck (max m1 m2 + 1) n (.seq a b) ⟨t, d⟩ S = Gv E (Dr E) ck m2 n b f' S' := by
                show Ew E (Dr E) (Gv E (Dr E) ck (max m1 m2)) ck n (.seq a b) ⟨t, d⟩ S = _
                simp only [Ew]
                rw [Tn (Nat.le_max_left m1 m2) hne, hr]
                exact Tn (Nat.le_max_right m1 m2) hf
              rw [e1]
        | exit i => refine .inr ⟨m1 + 1, ?_⟩; show Pq k ck (Ew E (Dr E) (Gv E (Dr E) ck m1) ck n (.seq a b) ⟨t, d⟩ S) = _; simp only [Ew, hr]; cases k <;> rfl
        | ret => refine .inr ⟨m1 + 1, ?_⟩; show Pq k ck (Ew E (Dr E) (Gv E (Dr E) ck m1) ck n (.seq a b) ⟨t, d⟩ S) = _; simp only [Ew, hr]; cases k <;> rfl
        | pan a => refine .inr ⟨m1 + 1, ?_⟩; show Pq k ck (Ew E (Dr E) (Gv E (Dr E) ck m1) ck n (.seq _ b) ⟨t, d⟩ S) = _; simp only [Ew, hr]; cases k <;> rfl
  | .cond x a b => X5 fun t d S => by
    have ha := L8 (n := n) hck a none t d S
    have hb := L8 (n := n) hck b none t d S
    show Option.rec (motive := fun _ => O) .fail (fun v => (hP (Hu E n a none) (Hu E n b none) v).c ck t d S) ((opG E.G x).g t) = .fail ∨ ∃ m, _ = Option.rec (motive := fun _ => O) .fail (fun v => (hP (Hu E n a none) (Hu E n b none) v).c ck t d S) ((opG E.G x).g t)
    rw [F8]
    cases hx : Cz E.G t x with
    | none => exact .inl rfl
    | some v =>
      show (hP (Hu E n a none) (Hu E n b none) v).c ck t d S = .fail ∨ ∃ m, _ = (hP (Hu E n a none) (Hu E n b none) v).c ck t d S
      unfold hP
      cases hv : v.sv with
      | b c =>
        have hvv := sv_b hv
        subst hvv
        cases c with
        | true =>
          show (Hu E n a none).c ck t d S = .fail ∨ ∃ m, _ = (Hu E n a none).c ck t d S
          rcases ha with ha | ⟨m, ha⟩
          · exact .inl ha
          · refine .inr ⟨m + 1, ?_⟩
            rw [← ha]
            show Ew E (Dr E) (Gv E (Dr E) ck m) ck n (.cond x a b) ⟨t, d⟩ S = _
            simp only [Ew, hx]; rfl
        | false =>
          show (Hu E n b none).c ck t d S = .fail ∨ ∃ m, _ = (Hu E n b none).c ck t d S
          rcases hb with hb | ⟨m, hb⟩
          · exact .inl hb
          · refine .inr ⟨m + 1, ?_⟩
            rw [← hb]
            show Ew E (Dr E) (Gv E (Dr E) ck m) ck n (.cond x a b) ⟨t, d⟩ S = _
            simp only [Ew, hx]; rfl
      | i => exact .inl rfl
      | s => exact .inl rfl
      | no => exact .inl rfl
  | .block id a => X5 fun t d S => by
    have ha := L8 (n := n) hck a none t d S
    show blkX id ((Hu E n a none).c ck t d S) = .fail ∨ ∃ m, _ = blkX id ((Hu E n a none).c ck t d S)
    rcases ha with ha | ⟨m, ha⟩
    · rw [ha]; exact .inl rfl
    · rw [← ha]
      refine .inr ⟨m + 1, ?_⟩
      show Ew E (Dr E) (Gv E (Dr E) ck m) ck n (.block id a) ⟨t, d⟩ S = blkX id (Gv E (Dr E) ck m n a ⟨t, d⟩ S)
      simp only [Ew]
      cases Gv E (Dr E) ck m n a ⟨t, d⟩ S with
      | fail => rfl
      | out e f' S' =>
        cases e with
        | exit i =>
          show (if i = id then O.out .normal f' S' else .out (.exit i) f' S') = Bool.rec (motive := fun _ => O) (.out (.exit i) f' S') (.out .normal f' S') (Nat.beq i id)
          rw [Rn]
          by_cases h : i = id
          · rw [if_pos h, decide_eq_true h]
          · rw [if_neg h, decide_eq_false h]
        | _ => rfl
  | .loop a => X5 fun t d S => by
    have key : ∀ (j : Nat) (t : T AV) (d : List Dfr) (S : St), Sv (Hu E n a none) ck j t d S = .fail ∨ ∃ m, Gv E (Dr E) ck m n (.loop a) ⟨t, d⟩ S = Sv (Hu E n a none) ck j t d S := by
      intro j
      induction j with
      | zero => exact fun t d S => .inl rfl
      | succ j ih =>
        intro t d S
        have ha := L8 (n := n) hck a none t d S
        show mD (Sv (Hu E n a none) ck j) ((Hu E n a none).c ck t d S) = .fail ∨ ∃ m, _ = mD (Sv (Hu E n a none) ck j) ((Hu E n a none).c ck t d S)
        rcases ha with ha | ⟨m1, ha⟩
        · rw [ha]; exact .inl rfl
        · rw [← ha]
          have ha2 : Pq none ck (Gv E (Dr E) ck m1 n a ⟨t, d⟩ S) = Gv E (Dr E) ck m1 n a ⟨t, d⟩ S := rfl
          rw [ha2]
          cases hr : Gv E (Dr E) ck m1 n a ⟨t, d⟩ S with
          | fail => exact .inl rfl
          | out e f' S' =>
            have hne : Gv E (Dr E) ck m1 n a ⟨t, d⟩ S ≠ .fail := by rw [hr]; exact fun e => by cases e
            cases e with
            | normal =>
              show Sv (Hu E n a none) ck j f'.tmps f'.dfr S' = .fail ∨ ∃ m, _ = Sv (Hu E n a none) ck j f'.tmps f'.dfr S'
              rcases ih f'.tmps f'.dfr S' with h | ⟨m2, h⟩
              · exact .inl h
              · rw [← h]
                by_cases hf : Gv E (Dr E) ck m2 n (.loop a) ⟨f'.tmps, f'.dfr⟩ S' = .fail
                · rw [hf]; exact .inl rfl
                · refine .inr ⟨max m1 m2 + 1, ?_⟩
                  show Ew E (Dr E) (Gv E (Dr E) ck (max m1 m2)) ck n (.loop a) ⟨t, d⟩ S = _
                  simp only [Ew]
                  rw [Tn (Nat.le_max_left m1 m2) hne, hr]
                  exact Tn (Nat.le_max_right m1 m2) hf
            | exit i => refine .inr ⟨m1 + 1, ?_⟩; show Ew E (Dr E) (Gv E (Dr E) ck m1) ck n (.loop a) ⟨t, d⟩ S = _; simp only [Ew, hr]; rfl
            | ret => refine .inr ⟨m1 + 1, ?_⟩; show Ew E (Dr E) (Gv E (Dr E) ck m1) ck n (.loop a) ⟨t, d⟩ S = _; simp only [Ew, hr]; rfl
            | pan b => refine .inr ⟨m1 + 1, ?_⟩; show Ew E (Dr E) (Gv E (Dr E) ck m1) ck n (.loop a) ⟨t, d⟩ S = _; simp only [Ew, hr]; rfl
    show (fJ (Hu E n a none)).c ck t d S = .fail ∨ ∃ m, _ = (fJ (Hu E n a none)).c ck t d S
    rw [loopB_c]
    exact key _ t d S
  | .exit id => fun k t d S => .inr ⟨1, by cases k <;> rfl⟩
  | .ret => fun k t d S => .inr ⟨1, by cases k <;> rfl⟩
  | .rangeFunc .. => fun k t d S => .inl rfl
  | .scope _ => fun k t d S => .inl rfl
  | .goto _ => fun k t d S => .inl rfl
  | .refuse _ => fun k t d S => .inl rfl
/-- Functions. -/
theorem cY {E : Env} {t : TypeId} {g : GB} {f : T AV} {S : St} {a : AV} (h : (Xb E.P t g).v f S = some a) : ∃ b, g.g f = some b ∧ Dw E.P S t b = some a := by
  unfold Xb at h
  split at h
  · rename_i ht
    obtain ⟨b, h1, h2⟩ := Fw h
    exact ⟨b, h1, mS ht h2⟩
  · rename_i ht
    split at h
    · rename_i n hs
      obtain ⟨b, h1, h2⟩ := Fw h
      exact ⟨b, h1, mO ht hs h2⟩
    · cases h
  · cases h
def Th (P : Program) (r : ResultVar) : VB := match r with
  | .tmp t => fF (Y0 t)
  | .cell x t => Xb P t (Y0 x)
def iC (l : List VB) (f : T AV) (S : St) : Option (List AV) := List.rec (motive := fun _ => Option (List AV)) (some []) (fun v _ ih => Option.rec (motive := fun _ => Option (List AV)) none (fun a => Lx a ih) (v.v f S)) l
theorem eY {E : Env} {f : T AV} {S : St} : ∀ {rs : List ResultVar} {l : List AV}, iC (rs.map (Th E.P)) f S = some l → Bj E f S rs = some l
  | [], l, h => h
  | r :: rs, l, h => by
    have h : Option.rec (motive := fun _ => Option (List AV)) none (fun a => Lx a (iC (rs.map (Th E.P)) f S)) ((Th E.P r).v f S) = some l := h
    cases hv : (Th E.P r).v f S with
    | none => rw [hv] at h; cases h
    | some a =>
      rw [hv] at h
      have h : Lx a (iC (rs.map (Th E.P)) f S) = some l := h
      cases hq : iC (rs.map (Th E.P)) f S with
      | none => rw [hq] at h; cases h
      | some q =>
        rw [hq] at h
        have h : some (a :: q) = some l := h
        injection h with h; subst h
        have ih := eY (E := E) hq
        cases r with
        | tmp t =>
          have hv : (Y0 t).g f = some a := hv
          rw [Q2] at hv
          simp only [Bj, hv, ih]
        | cell x t =>
          obtain ⟨b, h1, h2⟩ := cY (E := E) hv
          rw [Q2] at h1
          simp only [Bj, h1, h2, ih]
def aZ (l : List VB) (f : T AV) (S : St) : R := Option.rec (motive := fun _ => R) .fail (fun l => .ret (Df l) S) (iC l f S)
def dS (l : List VB) (r : O) : R := O.rec (motive := fun _ => R) (fun e f S => List.rec (motive := fun _ => R) (Ex.rec (motive := fun _ => R) (aZ l f.tmps S) (fun _ => .fail) (aZ l f.tmps S) (fun a => .pan a S) e) (fun _ _ _ => .fail) f.dfr) .fail r
def Q0 (l : List AV) : Nat → T AV := List.rec (motive := fun _ => Nat → T AV) (fun _ => .leaf) (fun a _ ih k => (setS k).s (ih (Nat.succ k)) a) l
theorem aV : ∀ (l : List AV) (k : Nat), Q0 l k = C1 l k
  | [], k => rfl
  | a :: r, k => by
    show (setS k).s (Q0 r (k + 1)) a = _
    rw [eQ, aV r (k + 1)]; rfl
def eT (E : Env) (ck : Ep) (m : Nat) : Nat → Code → Fr → St → O :=
  Nat.rec (motive := fun _ => Nat → Code → Fr → St → O) (fun _ _ _ _ => .fail) (fun _ ih => Ua E (Pd E) ih ck) m
theorem Zz (E : Env) (ck : Ep) : ∀ m, eT E ck m = Gv E (Dr E) ck m
  | 0 => rfl
  | m + 1 => by
    have ih := Zz E ck m
    show (fun n c f S => Ua E (Pd E) (eT E ck m) ck n c f S) = _
    rw [ih, Zb]
    funext n c f S
    exact Wo ..
def defers (l : List Oper) : Bool := l.any fun o => match o.op with | .defer _ => true | _ => false
def Ls : Code → Bool
  | .region _ ops _ => defers ops.toList
  | .seq a b => Ls a || Ls b
  | .cond _ a b => Ls a || Ls b
  | .block _ a => Ls a
  | .loop a => Ls a
  | _ => false
def failF : FB := ⟨fun _ _ _ => .fail⟩
def slowF (E : Env) (k : FuncId) : FB := ⟨fun ck args S => Iw E (eT E ck bB) k args S⟩
def fastF (x : Bx) (n : Nat) (l : List VB) : FB := ⟨fun ck args S => Bool.rec (motive := fun _ => R) .fail (dS l (x.c ck (Q0 args 0) [] S)) (Nat.ble (R9 args) n)⟩
def fnB (E : Env) (k : FuncId) : FB := match E.F k with
  | none => failF
  | some fn => match E.I k with
    | some g => ⟨fun _ args S => g args S⟩
    | none => match fn.body with
      | none => failF
      | some c => if Ls c then slowF E k else fastF (Hu E fn.ntmps c none) fn.ntmps (fn.results.toList.map (Th E.P))
def Pr (E : Env) (m : Nat) : Ep := Nat.rec (motive := fun _ => Ep) (fun _ _ _ => .fail) (fun _ ih k args S => (fnB E k).f ih args S) m
theorem endX_ok {E : Env} {fn : Func} {rec : Nat → Code → Fr → St → O} (r : O) : dS (fn.results.toList.map (Th E.P)) r = .fail ∨ dS (fn.results.toList.map (Th E.P)) r = Q7 E rec fn r := by
  have give : ∀ (f : T AV) (S : St), aZ (fn.results.toList.map (Th E.P)) f S = .fail ∨ aZ (fn.results.toList.map (Th E.P)) f S = Jn E fn f S := fun f S => by
    unfold aZ
    cases hq : iC (fn.results.toList.map (Th E.P)) f S with
    | none => exact .inl rfl
    | some l =>
      refine .inr ?_
      unfold Jn
      rw [eY hq]
  cases r with
  | fail => exact .inl rfl
  | out e f S =>
    obtain ⟨t, d⟩ := f
    cases d with
    | cons x y => exact .inl rfl
    | nil => cases e with
      | normal => exact give t S
      | exit i => exact .inl rfl
      | ret => exact give t S
      | pan a => exact .inr rfl
theorem nH {E : Env} {ck : Ep} (hck : CkF E ck) (k : FuncId) (args : List AV) (S : St) : (fnB E k).f ck args S = .fail ∨ ((E.F k).isSome = true ∧ ∃ m, (fnB E k).f ck args S = Iw E (Gv E (Dr E) ck m) k args S) := by
  unfold fnB
  cases hF : E.F k with
  | none => exact .inl rfl
  | some fn =>
    simp only
    cases hI : E.I k with
    | some g => exact .inr ⟨rfl, 0, by simp only [Iw, hI]⟩
    | none =>
      simp only
      cases hb : fn.body with
      | none => exact .inl rfl
      | some c =>
        simp only
        split
        · exact .inr ⟨rfl, bB, by show Iw E (eT E ck bB) k args S = _; rw [Zz]⟩
        · show (Bool.rec (motive := fun _ => R) .fail (dS _ ((Hu E fn.ntmps c none).c ck (Q0 args 0) [] S)) (Nat.ble (R9 args) fn.ntmps) : R) = .fail ∨ _ ∧ ∃ m, (Bool.rec (motive := fun _ => R) .fail (dS _ ((Hu E fn.ntmps c none).c ck (Q0 args 0) [] S)) (Nat.ble (R9 args) fn.ntmps) : R) = _
          cases hl : Nat.ble (R9 args) fn.ntmps with
          | false => exact .inl rfl
          | true =>
            have hle : args.length ≤ fn.ntmps := by rw [← Lb]; exact Nat.le_of_ble_eq_true hl
            show dS _ ((Hu E fn.ntmps c none).c ck (Q0 args 0) [] S) = .fail ∨ _ ∧ ∃ m, dS _ ((Hu E fn.ntmps c none).c ck (Q0 args 0) [] S) = _
            rcases L8 hck c none (Q0 args 0) [] S with h | ⟨m, h⟩
            · rw [h]; exact .inl rfl
            · rw [← h]
              rcases endX_ok (E := E) (fn := fn) (rec := Gv E (Dr E) ck m) (Pq none ck (Gv E (Dr E) ck m fn.ntmps c ⟨Q0 args 0, []⟩ S)) with h2 | h2
              · exact .inl h2
              · refine .inr ⟨rfl, m, h2.trans ?_⟩
                simp only [Iw, hI, hF, hb, if_pos hle, aV]
                rfl
theorem Ze {E : Env} : ∀ m, CkF E (Pr E m)
  | 0 => fun k args S h => absurd rfl h
  | m + 1 => fun k args S h => by
    rcases nH (Ze m) k args S with h2 | ⟨h2, _⟩
    · exact absurd h2 h
    · exact h2
theorem Vs {E : Env} (hE : E.Ok) (hI : Ju E) (hmix : E.P.follows .mixedOrders = true) : ∀ m base w0, Jv E base w0 (Pr E m)
  | 0, base, w0 => fun k args S h => absurd rfl h
  | m + 1, base, w0 => by
    intro k args S hne γ w vs hS hg hv hF
    rcases nH (Ze m) k args S with h2 | ⟨_, j, h2⟩
    · exact absurd h2 hne
    · have e : Pr E (m + 1) k args S = Iw E (Gv E (Dr E) (Pr E m) j) k args S := h2
      rw [e] at hne ⊢
      exact L4 hE hI (P0 hE (Im hE hmix) (Vs hE hI hmix m) j) base w0 k args S hne γ w vs hS hg hv hF
end Go.Ax
noncomputable section
namespace Go.Ax
open Go.RowKit
set_option linter.unusedVariables false
set_option linter.unusedSimpArgs false
section
variable {E : Env}
theorem bM (hE : E.Ok) (hI : Ju E) (hmix : E.P.follows .mixedOrders = true) (hG : E.G = fun _ => none) {m : Nat} {k : FuncId} {args : List AV} (h : Tw (Pr E m k args St0) = true) (hF : (E.F k).isSome = true) {w : World} {vs : List Value} (hv : VRL Gh0 w args vs) :
    Calls E.P k vs.toArray w fun e w' => e = .returned (.bool true) ∧ Below w.heap.size w w' := by
  cases hr : Pr E m k args St0 with
  | fail => rw [hr] at h; cases h
  | pan a S => rw [hr] at h; cases h
  | ret a S =>
    rw [hr] at h
    have hne : Pr E m k args St0 ≠ .fail := by rw [hr]; exact fun e => by cases e
    have := Vs hE hI hmix m w.heap.size w k args St0 hne Gh0 w vs (SR.start w) (by rw [hG]; exact GR.none) hv hF
    rw [hr] at this
    refine this.mono fun e w' he => ?_
    obtain ⟨γ', v, h1, h2, h3, rfl⟩ := he
    unfold Tw at h
    split at h
    · rename_i b S' heq
      injection heq with e1 e2
      subst e1; subst h
      cases h3
      exact ⟨rfl, h1.below⟩
    · cases h
end
end Go.Ax
