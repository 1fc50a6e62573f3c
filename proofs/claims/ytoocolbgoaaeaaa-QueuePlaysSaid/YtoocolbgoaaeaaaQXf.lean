/-
  Code and functions made ready: that their runs are the slow ones, and so the model's.
-/
import Derived.Test.YtoocolbgoaaeaaaQZa
noncomputable section
namespace Go.Ax
open Go.RowKit
set_option linter.unusedVariables false
set_option linter.unusedSimpArgs false

theorem stepC_sound2 {E : Env} {D : Drawn} {callK : CallK} {rec : Nat → Code → Fr → St → O} (hE : E.Ok) (hD : DrawnOk E D) (hC : ∀ base w0, CallOk E base w0 callK) (hR : CodeOk E rec) : CodeOk E (stepC E D rec callK) := by
  have loop : ∀ (base : Nat) (w0 : World) (Q : Exit → Act → World → Prop) (n : Nat) (c : Code) (γ : Gh) (S : St) (w : World) (f : Fr) (act : Act), SR base w0 γ S w → AR γ w n f act → GR γ w E.G →
      Holds base w0 n γ S w Q (stepC E D rec callK n (.loop c) f S) → LWp E.P c Q act w := by
    intro base w0 Q n c γ S w f act hS ha hg hH
    refine LWp.round (hR.code base w0 _ n c γ S w f act hS ha hg ?_)
    unfold stepC at hH
    simp only at hH
    split at hH
    · rename_i f' S' hr
      rw [hr]
      intro γ' act' w' k1 k2 k3
      exact hR.loop base w0 Q n c γ' S' w' f' act' k1 k3 (hg.mono k2.ev) (hH.later k2)
    · rename_i r hr
      cases hst : rec n c f S with
      | fail => rw [hst] at hH; exact hH.elim
      | out e f' S' =>
        rw [hst] at hH
        intro γ' act' w' k1 k2 k3
        have := hH γ' act' w' k1 k2 k3
        cases e with
        | normal => exact absurd hst (hr f' S')
        | exit id => exact this
        | ret => exact this
        | pan a => exact this
  refine ⟨fun base w0 Q n c γ S w f act hS ha hg hH => ?_, loop⟩
  cases c with
  | skip => exact wp_skip (hH γ act w hS (.refl _ _ _) ha)
  | label l => exact wp_label (hH γ act w hS (.refl _ _ _) ha)
  | region id ops draw =>
    cases draw with
    | false => exact wp_region_list (runL_sound hE (hC base w0) _ γ S w f act hS ha hg hH)
    | true => exact hD base w0 Q _ (hC base w0) n id ops γ S w f act hS ha hg hH
  | seq x y =>
    refine wp_seq (hR.code base w0 _ n x γ S w f act hS ha hg ?_)
    unfold stepC at hH
    simp only at hH
    split at hH
    · rename_i f' S' hr
      rw [hr]
      intro γ' act' w' k1 k2 k3
      exact hR.code base w0 Q n y γ' S' w' f' act' k1 k3 (hg.mono k2.ev) (hH.later k2)
    · rename_i r hr
      cases hst : rec n x f S with
      | fail => rw [hst] at hH; exact hH.elim
      | out e f' S' =>
        rw [hst] at hH
        intro γ' act' w' k1 k2 k3
        have := hH γ' act' w' k1 k2 k3
        cases e with
        | normal => exact absurd hst (hr f' S')
        | exit id => exact this
        | ret => exact this
        | pan a => exact this
  | cond c x y =>
    unfold stepC at hH
    simp only at hH
    split at hH
    · rename_i hc
      have hv := evalO_sound ha.tmps hg hc
      generalize hq : act.eval c = q at hv
      cases hv
      exact wp_cond_true hq (hR.code base w0 Q n x γ S w f act hS ha hg hH)
    · rename_i hc
      have hv := evalO_sound ha.tmps hg hc
      generalize hq : act.eval c = q at hv
      cases hv
      exact wp_cond_false hq (hR.code base w0 Q n y γ S w f act hS ha hg hH)
    · exact hH.elim
  | block id c =>
    refine wp_block (hR.code base w0 _ n c γ S w f act hS ha hg ?_)
    unfold stepC at hH
    simp only at hH
    split at hH
    · rename_i id' f' S' hr
      rw [hr]
      intro γ' act' w' k1 k2 k3
      show if id' = id then Q .normal act' w' else Q (.exit id') act' w'
      split
      · rename_i he
        rw [if_pos he] at hH
        exact hH γ' act' w' k1 k2 k3
      · rename_i he
        rw [if_neg he] at hH
        exact hH γ' act' w' k1 k2 k3
    · rename_i r hr
      cases hst : rec n c f S with
      | fail => rw [hst] at hH; exact hH.elim
      | out e f' S' =>
        rw [hst] at hH
        intro γ' act' w' k1 k2 k3
        have := hH γ' act' w' k1 k2 k3
        cases e with
        | normal => exact this
        | exit id' => exact absurd hst (hr id' f' S')
        | ret => exact this
        | pan a => exact this
  | loop c => exact (loop base w0 Q n c γ S w f act hS ha hg hH).loop
  | exit id => exact wp_exit (hH γ act w hS (.refl _ _ _) ha)
  | ret => exact wp_ret (hH γ act w hS (.refl _ _ _) ha)
  | rangeFunc => exact hH.elim
  | scope => exact hH.elim
  | goto => exact hH.elim
  | refuse => exact hH.elim

def runC (E : Env) (D : Drawn) (ck : CallK) : Nat → Nat → Code → Fr → St → O :=
  Nat.rec (fun _ _ _ _ => .fail) (fun _ ih => stepC E D ih ck)
theorem runC_sound {E : Env} {D : Drawn} {ck : CallK} (hE : E.Ok) (hD : DrawnOk E D) (hC : ∀ base w0, CallOk E base w0 ck) : ∀ m, CodeOk E (runC E D ck m)
  | 0 => ⟨fun _ _ _ _ _ _ _ _ _ _ _ _ _ h => h.elim, fun _ _ _ _ _ _ _ _ _ _ _ _ _ h => h.elim⟩
  | m + 1 => stepC_sound2 hE hD hC (runC_sound hE hD hC m)
theorem runC_succ {E : Env} {D : Drawn} {ck : CallK} : ∀ (m n : Nat) (c : Code) (f : Fr) (S : St), runC E D ck m n c f S ≠ .fail → runC E D ck (m + 1) n c f S = runC E D ck m n c f S
  | 0, n, c, f, S, h => absurd rfl h
  | m + 1, n, c, f, S, h => by
    have ih := runC_succ (E := E) (D := D) (ck := ck) m
    have e1 : ∀ m n c f S, runC E D ck (m + 1) n c f S = stepC E D (runC E D ck m) ck n c f S := fun _ _ _ _ _ => rfl
    rw [e1] at h ⊢
    rw [e1 m]
    have sub : ∀ (c : Code) (f : Fr) (S : St) (r : O), runC E D ck m n c f S = r → r ≠ .fail → runC E D ck (m + 1) n c f S = r := fun c f S r hr hne => (ih n c f S (by rw [hr]; exact hne)).trans hr
    cases c with
    | seq a b =>
      simp only [stepC] at h ⊢
      cases hr : runC E D ck m n a f S with
      | fail => rw [hr] at h; exact absurd rfl h
      | out e f' S' =>
        rw [sub _ _ _ _ hr (fun e => by cases e)]
        rw [hr] at h
        cases e with
        | normal => exact ih n b f' S' h
        | _ => rfl
    | loop a =>
      simp only [stepC] at h ⊢
      cases hr : runC E D ck m n a f S with
      | fail => rw [hr] at h; exact absurd rfl h
      | out e f' S' =>
        rw [sub _ _ _ _ hr (fun e => by cases e)]
        rw [hr] at h
        cases e with
        | normal => exact ih n (.loop a) f' S' h
        | _ => rfl
    | block id a =>
      simp only [stepC] at h ⊢
      cases hr : runC E D ck m n a f S with
      | fail => rw [hr] at h; exact absurd rfl h
      | out e f' S' => rw [sub _ _ _ _ hr (fun e => by cases e)]
    | cond x a b =>
      simp only [stepC] at h ⊢
      split at h
      · exact ih n a f S h
      · exact ih n b f S h
      · exact absurd rfl h
    | region id ops dr => cases dr <;> rfl
    | _ => rfl
theorem runC_le {E : Env} {D : Drawn} {ck : CallK} {m m' n : Nat} {c : Code} {f : Fr} {S : St} (hm : m ≤ m') (h : runC E D ck m n c f S ≠ .fail) : runC E D ck m' n c f S = runC E D ck m n c f S := by
  induction hm with
  | refl => rfl
  | step hm ih => rw [runC_succ _ _ _ _ _ (by rw [ih]; exact h), ih]

def orNorm (k : Option Bx) : Bx := Option.rec (motive := fun _ => Bx) normB (fun k => k) k
def thenB (x k : Bx) : Bx := ⟨fun ck t d S => contX k.c ck (x.c ck t d S)⟩
def tailB (x : Bx) (k : Option Bx) : Bx := Option.rec (motive := fun _ => Bx) x (fun k => thenB x k) k
def exitB (id : Nat) : Bx := ⟨fun _ t d S => .out (.exit id) ⟨t, d⟩ S⟩
def retB : Bx := ⟨fun _ t d S => .out .ret ⟨t, d⟩ S⟩
def sel1 (a b : Bx) (v : AV) : Bx := SV.rec (motive := fun _ => Bx) (fun c => Bool.rec (motive := fun _ => Bx) b a c) (fun _ _ => failB) (fun _ => failB) failB v.sv
def condB (g : GB) (a b : Bx) : Bx := ⟨fun ck t d S => Option.rec (motive := fun _ => O) .fail (fun v => (sel1 a b v).c ck t d S) (g.g t)⟩
def blkX (id : Nat) (r : O) : O := O.rec (motive := fun _ => O) (fun e f S => Ex.rec (motive := fun _ => O) (.out .normal f S) (fun i => Bool.rec (motive := fun _ => O) (.out (.exit i) f S) (.out .normal f S) (Nat.beq i id)) (.out .ret f S) (fun a => .out (.pan a) f S) e) .fail r
def blockB (id : Nat) (x : Bx) : Bx := ⟨fun ck t d S => blkX id (x.c ck t d S)⟩
def loopX (ih : T AV → List Dfr → St → O) (r : O) : O := O.rec (motive := fun _ => O) (fun e f S => Ex.rec (motive := fun _ => O) (ih f.tmps f.dfr S) (fun i => .out (.exit i) f S) (.out .ret f S) (fun a => .out (.pan a) f S) e) .fail r
def loopN (x : Bx) (ck : CallK) (j : Nat) : T AV → List Dfr → St → O := Nat.rec (motive := fun _ => T AV → List Dfr → St → O) (fun _ _ _ => .fail) (fun _ ih t d S => loopX ih (x.c ck t d S)) j
def fuelN : Nat := 5000
def loopB (x : Bx) : Bx := ⟨fun ck t d S => loopN x ck fuelN t d S⟩
theorem loopB_c (x : Bx) (ck : CallK) (t : T AV) (d : List Dfr) (S : St) : (loopB x).c ck t d S = loopN x ck fuelN t d S := rfl
def comp (E : Env) (n : Nat) (c : Code) : Option Bx → Bx := Code.rec (motive := fun _ => Option Bx → Bx)
  (fun k => orNorm k)
  (fun _ ops dr k => Bool.rec (motive := fun _ => Bx) (opsB E n ops ops.toList (orNorm k)) (drawB E n ops (orNorm k)) dr)
  (fun _ _ ia ib k => ia (some (ib k)))
  (fun x _ _ ia ib k => tailB (condB (opG E.G x) (ia none) (ib none)) k)
  (fun id _ ia k => tailB (blockB id (ia none)) k)
  (fun _ ia k => tailB (loopB (ia none)) k)
  (fun _ _ _ _ _ _ _ => failB)
  (fun id _ => exitB id)
  (fun _ _ _ => failB)
  (fun _ k => orNorm k)
  (fun _ _ => failB)
  (fun _ => retB)
  (fun _ _ => failB) c
def contO (k : Option Bx) (ck : CallK) (r : O) : O := match k with
  | none => r
  | some k => contX k.c ck r
theorem contO_fail (k : Option Bx) (ck : CallK) : contO k ck .fail = .fail := by cases k <;> rfl
theorem contX_or (k : Option Bx) (ck : CallK) (r : O) : contX (orNorm k).c ck r = contO k ck r := by
  cases k with
  | none => exact contX_norm ck r
  | some k => rfl
theorem tailB_c (x : Bx) (k : Option Bx) (ck : CallK) (t : T AV) (d : List Dfr) (S : St) : (tailB x k).c ck t d S = contO k ck (x.c ck t d S) := by cases k <;> rfl
def COk (E : Env) (n : Nat) (ck : CallK) (c : Code) : Prop := ∀ (k : Option Bx) (t : T AV) (d : List Dfr) (S : St), (comp E n c k).c ck t d S = .fail ∨ ∃ m, contO k ck (runC E (drawnNew E) ck m n c ⟨t, d⟩ S) = (comp E n c k).c ck t d S
theorem tail_ok {E : Env} {n : Nat} {ck : CallK} {c : Code} {x : Bx} (h : ∀ (t : T AV) (d : List Dfr) (S : St), x.c ck t d S = .fail ∨ ∃ m, runC E (drawnNew E) ck m n c ⟨t, d⟩ S = x.c ck t d S) (k : Option Bx) (t : T AV) (d : List Dfr) (S : St) :
    (tailB x k).c ck t d S = .fail ∨ ∃ m, contO k ck (runC E (drawnNew E) ck m n c ⟨t, d⟩ S) = (tailB x k).c ck t d S := by
  rw [tailB_c]
  rcases h t d S with h | ⟨m, h⟩
  · rw [h, contO_fail]; exact .inl rfl
  · exact .inr ⟨m, by rw [h]⟩
theorem comp_ok {E : Env} {n : Nat} {ck : CallK} (hck : CkF E ck) : ∀ c : Code, COk E n ck c
  | .skip => fun k t d S => .inr ⟨1, (contX_or k ck _).symm⟩
  | .label l => fun k t d S => .inr ⟨1, (contX_or k ck _).symm⟩
  | .region id ops false => fun k t d S => by
    have h := opsB_ok (E := E) (n := n) (ops := ops) hck (orNorm k) ops.toList t d S
    rw [contX_or] at h
    show (opsB E n ops ops.toList (orNorm k)).c ck t d S = .fail ∨ _
    rcases h with h | h
    · exact .inl h
    · exact .inr ⟨1, h.symm⟩
  | .region id ops true => fun k t d S => by
    have h := drawB_ok (E := E) (n := n) (ops := ops) hck (orNorm k) t d S
    rw [contX_or] at h
    show (drawB E n ops (orNorm k)).c ck t d S = .fail ∨ _
    rcases h with h | h
    · exact .inl h
    · exact .inr ⟨1, h.symm⟩
  | .seq a b => fun k t d S => by
    have ha := comp_ok (n := n) hck a (some (comp E n b k)) t d S
    show (comp E n a (some (comp E n b k))).c ck t d S = .fail ∨ ∃ m, _ = (comp E n a (some (comp E n b k))).c ck t d S
    rcases ha with ha | ⟨m1, ha⟩
    · exact .inl ha
    · rw [← ha]
      cases hr : runC E (drawnNew E) ck m1 n a ⟨t, d⟩ S with
      | fail => exact .inl rfl
      | out e f' S' =>
        have hne : runC E (drawnNew E) ck m1 n a ⟨t, d⟩ S ≠ .fail := by rw [hr]; exact fun e => by cases e
        cases e with
        | normal =>
          have hb := comp_ok (n := n) hck b k f'.tmps f'.dfr S'
          show (comp E n b k).c ck f'.tmps f'.dfr S' = .fail ∨ ∃ m, _ = (comp E n b k).c ck f'.tmps f'.dfr S'
          rcases hb with hb | ⟨m2, hb⟩
          · exact .inl hb
          · rw [← hb]
            by_cases hf : runC E (drawnNew E) ck m2 n b ⟨f'.tmps, f'.dfr⟩ S' = .fail
            · rw [hf, contO_fail]; exact .inl rfl
            · refine .inr ⟨max m1 m2 + 1, ?_⟩
              have e1 : runC E (drawnNew E) ck (max m1 m2 + 1) n (.seq a b) ⟨t, d⟩ S = runC E (drawnNew E) ck m2 n b f' S' := by
                show stepC E (drawnNew E) (runC E (drawnNew E) ck (max m1 m2)) ck n (.seq a b) ⟨t, d⟩ S = _
                simp only [stepC]
                rw [runC_le (Nat.le_max_left m1 m2) hne, hr]
                exact runC_le (Nat.le_max_right m1 m2) hf
              rw [e1]
        | exit i => refine .inr ⟨m1 + 1, ?_⟩; show contO k ck (stepC E (drawnNew E) (runC E (drawnNew E) ck m1) ck n (.seq a b) ⟨t, d⟩ S) = _; simp only [stepC, hr]; cases k <;> rfl
        | ret => refine .inr ⟨m1 + 1, ?_⟩; show contO k ck (stepC E (drawnNew E) (runC E (drawnNew E) ck m1) ck n (.seq a b) ⟨t, d⟩ S) = _; simp only [stepC, hr]; cases k <;> rfl
        | pan a => refine .inr ⟨m1 + 1, ?_⟩; show contO k ck (stepC E (drawnNew E) (runC E (drawnNew E) ck m1) ck n (.seq _ b) ⟨t, d⟩ S) = _; simp only [stepC, hr]; cases k <;> rfl
  | .cond x a b => tail_ok fun t d S => by
    have ha := comp_ok (n := n) hck a none t d S
    have hb := comp_ok (n := n) hck b none t d S
    show Option.rec (motive := fun _ => O) .fail (fun v => (sel1 (comp E n a none) (comp E n b none) v).c ck t d S) ((opG E.G x).g t) = .fail ∨ ∃ m, _ = Option.rec (motive := fun _ => O) .fail (fun v => (sel1 (comp E n a none) (comp E n b none) v).c ck t d S) ((opG E.G x).g t)
    rw [opG_ok]
    cases hx : evalO E.G t x with
    | none => exact .inl rfl
    | some v =>
      show (sel1 (comp E n a none) (comp E n b none) v).c ck t d S = .fail ∨ ∃ m, _ = (sel1 (comp E n a none) (comp E n b none) v).c ck t d S
      unfold sel1
      cases hv : v.sv with
      | b c =>
        have hvv := sv_b hv
        subst hvv
        cases c with
        | true =>
          show (comp E n a none).c ck t d S = .fail ∨ ∃ m, _ = (comp E n a none).c ck t d S
          rcases ha with ha | ⟨m, ha⟩
          · exact .inl ha
          · refine .inr ⟨m + 1, ?_⟩
            rw [← ha]
            show stepC E (drawnNew E) (runC E (drawnNew E) ck m) ck n (.cond x a b) ⟨t, d⟩ S = _
            simp only [stepC, hx]; rfl
        | false =>
          show (comp E n b none).c ck t d S = .fail ∨ ∃ m, _ = (comp E n b none).c ck t d S
          rcases hb with hb | ⟨m, hb⟩
          · exact .inl hb
          · refine .inr ⟨m + 1, ?_⟩
            rw [← hb]
            show stepC E (drawnNew E) (runC E (drawnNew E) ck m) ck n (.cond x a b) ⟨t, d⟩ S = _
            simp only [stepC, hx]; rfl
      | i => exact .inl rfl
      | s => exact .inl rfl
      | no => exact .inl rfl
  | .block id a => tail_ok fun t d S => by
    have ha := comp_ok (n := n) hck a none t d S
    show blkX id ((comp E n a none).c ck t d S) = .fail ∨ ∃ m, _ = blkX id ((comp E n a none).c ck t d S)
    rcases ha with ha | ⟨m, ha⟩
    · rw [ha]; exact .inl rfl
    · rw [← ha]
      refine .inr ⟨m + 1, ?_⟩
      show stepC E (drawnNew E) (runC E (drawnNew E) ck m) ck n (.block id a) ⟨t, d⟩ S = blkX id (runC E (drawnNew E) ck m n a ⟨t, d⟩ S)
      simp only [stepC]
      cases runC E (drawnNew E) ck m n a ⟨t, d⟩ S with
      | fail => rfl
      | out e f' S' =>
        cases e with
        | exit i =>
          show (if i = id then O.out .normal f' S' else .out (.exit i) f' S') = Bool.rec (motive := fun _ => O) (.out (.exit i) f' S') (.out .normal f' S') (Nat.beq i id)
          rw [beq_dec]
          by_cases h : i = id
          · rw [if_pos h, decide_eq_true h]
          · rw [if_neg h, decide_eq_false h]
        | _ => rfl
  | .loop a => tail_ok fun t d S => by
    have key : ∀ (j : Nat) (t : T AV) (d : List Dfr) (S : St), loopN (comp E n a none) ck j t d S = .fail ∨ ∃ m, runC E (drawnNew E) ck m n (.loop a) ⟨t, d⟩ S = loopN (comp E n a none) ck j t d S := by
      intro j
      induction j with
      | zero => exact fun t d S => .inl rfl
      | succ j ih =>
        intro t d S
        have ha := comp_ok (n := n) hck a none t d S
        show loopX (loopN (comp E n a none) ck j) ((comp E n a none).c ck t d S) = .fail ∨ ∃ m, _ = loopX (loopN (comp E n a none) ck j) ((comp E n a none).c ck t d S)
        rcases ha with ha | ⟨m1, ha⟩
        · rw [ha]; exact .inl rfl
        · rw [← ha]
          have ha2 : contO none ck (runC E (drawnNew E) ck m1 n a ⟨t, d⟩ S) = runC E (drawnNew E) ck m1 n a ⟨t, d⟩ S := rfl
          rw [ha2]
          cases hr : runC E (drawnNew E) ck m1 n a ⟨t, d⟩ S with
          | fail => exact .inl rfl
          | out e f' S' =>
            have hne : runC E (drawnNew E) ck m1 n a ⟨t, d⟩ S ≠ .fail := by rw [hr]; exact fun e => by cases e
            cases e with
            | normal =>
              show loopN (comp E n a none) ck j f'.tmps f'.dfr S' = .fail ∨ ∃ m, _ = loopN (comp E n a none) ck j f'.tmps f'.dfr S'
              rcases ih f'.tmps f'.dfr S' with h | ⟨m2, h⟩
              · exact .inl h
              · rw [← h]
                by_cases hf : runC E (drawnNew E) ck m2 n (.loop a) ⟨f'.tmps, f'.dfr⟩ S' = .fail
                · rw [hf]; exact .inl rfl
                · refine .inr ⟨max m1 m2 + 1, ?_⟩
                  show stepC E (drawnNew E) (runC E (drawnNew E) ck (max m1 m2)) ck n (.loop a) ⟨t, d⟩ S = _
                  simp only [stepC]
                  rw [runC_le (Nat.le_max_left m1 m2) hne, hr]
                  exact runC_le (Nat.le_max_right m1 m2) hf
            | exit i => refine .inr ⟨m1 + 1, ?_⟩; show stepC E (drawnNew E) (runC E (drawnNew E) ck m1) ck n (.loop a) ⟨t, d⟩ S = _; simp only [stepC, hr]; rfl
            | ret => refine .inr ⟨m1 + 1, ?_⟩; show stepC E (drawnNew E) (runC E (drawnNew E) ck m1) ck n (.loop a) ⟨t, d⟩ S = _; simp only [stepC, hr]; rfl
            | pan b => refine .inr ⟨m1 + 1, ?_⟩; show stepC E (drawnNew E) (runC E (drawnNew E) ck m1) ck n (.loop a) ⟨t, d⟩ S = _; simp only [stepC, hr]; rfl
    show (loopB (comp E n a none)).c ck t d S = .fail ∨ ∃ m, _ = (loopB (comp E n a none)).c ck t d S
    rw [loopB_c]
    exact key _ t d S
  | .exit id => fun k t d S => .inr ⟨1, by cases k <;> rfl⟩
  | .ret => fun k t d S => .inr ⟨1, by cases k <;> rfl⟩
  | .rangeFunc .. => fun k t d S => .inl rfl
  | .scope _ => fun k t d S => .inl rfl
  | .goto _ => fun k t d S => .inl rfl
  | .refuse _ => fun k t d S => .inl rfl
/-- Functions. -/
theorem loadV_load {E : Env} {t : TypeId} {g : GB} {f : T AV} {S : St} {a : AV} (h : (loadV E.P t g).v f S = some a) : ∃ b, g.g f = some b ∧ oLoad E.P S t b = some a := by
  unfold loadV at h
  split at h
  · rename_i ht
    obtain ⟨b, h1, h2⟩ := bnd_some h
    exact ⟨b, h1, ld1_ok ht h2⟩
  · rename_i ht
    split at h
    · rename_i n hs
      obtain ⟨b, h1, h2⟩ := bnd_some h
      exact ⟨b, h1, ldN_ok ht hs h2⟩
    · cases h
  · cases h
def resV (P : Program) (r : ResultVar) : VB := match r with
  | .tmp t => moveV (getG t)
  | .cell x t => loadV P t (getG x)
def resX (l : List VB) (f : T AV) (S : St) : Option (List AV) := List.rec (motive := fun _ => Option (List AV)) (some []) (fun v _ ih => Option.rec (motive := fun _ => Option (List AV)) none (fun a => consO a ih) (v.v f S)) l
theorem resX_ok {E : Env} {f : T AV} {S : St} : ∀ {rs : List ResultVar} {l : List AV}, resX (rs.map (resV E.P)) f S = some l → resultsA E f S rs = some l
  | [], l, h => h
  | r :: rs, l, h => by
    have h : Option.rec (motive := fun _ => Option (List AV)) none (fun a => consO a (resX (rs.map (resV E.P)) f S)) ((resV E.P r).v f S) = some l := h
    cases hv : (resV E.P r).v f S with
    | none => rw [hv] at h; cases h
    | some a =>
      rw [hv] at h
      have h : consO a (resX (rs.map (resV E.P)) f S) = some l := h
      cases hq : resX (rs.map (resV E.P)) f S with
      | none => rw [hq] at h; cases h
      | some q =>
        rw [hq] at h
        have h : some (a :: q) = some l := h
        injection h with h; subst h
        have ih := resX_ok (E := E) hq
        cases r with
        | tmp t =>
          have hv : (getG t).g f = some a := hv
          rw [getG_ok] at hv
          simp only [resultsA, hv, ih]
        | cell x t =>
          obtain ⟨b, h1, h2⟩ := loadV_load (E := E) hv
          rw [getG_ok] at h1
          simp only [resultsA, h1, h2, ih]
def giveX (l : List VB) (f : T AV) (S : St) : R := Option.rec (motive := fun _ => R) .fail (fun l => .ret (tupA l) S) (resX l f S)
def endX (l : List VB) (r : O) : R := O.rec (motive := fun _ => R) (fun e f S => List.rec (motive := fun _ => R) (Ex.rec (motive := fun _ => R) (giveX l f.tmps S) (fun _ => .fail) (giveX l f.tmps S) (fun a => .pan a S) e) (fun _ _ _ => .fail) f.dfr) .fail r
def initR (l : List AV) : Nat → T AV := List.rec (motive := fun _ => Nat → T AV) (fun _ => .leaf) (fun a _ ih k => (setS k).s (ih (Nat.succ k)) a) l
theorem initR_eq : ∀ (l : List AV) (k : Nat), initR l k = initT l k
  | [], k => rfl
  | a :: r, k => by
    show (setS k).s (initR r (k + 1)) a = _
    rw [setS_ok, initR_eq r (k + 1)]; rfl
def runCR (E : Env) (ck : CallK) (m : Nat) : Nat → Code → Fr → St → O :=
  Nat.rec (motive := fun _ => Nat → Code → Fr → St → O) (fun _ _ _ _ => .fail) (fun _ ih => stepCR E (drawnNewR E) ih ck) m
theorem runCR_eq (E : Env) (ck : CallK) : ∀ m, runCR E ck m = runC E (drawnNew E) ck m
  | 0 => rfl
  | m + 1 => by
    have ih := runCR_eq E ck m
    show (fun n c f S => stepCR E (drawnNewR E) (runCR E ck m) ck n c f S) = _
    rw [ih, drawnNewR_eq]
    funext n c f S
    exact stepCR_eq ..
def defers (l : List Oper) : Bool := l.any fun o => match o.op with | .defer _ => true | _ => false
def hasDefer : Code → Bool
  | .region _ ops _ => defers ops.toList
  | .seq a b => hasDefer a || hasDefer b
  | .cond _ a b => hasDefer a || hasDefer b
  | .block _ a => hasDefer a
  | .loop a => hasDefer a
  | _ => false
def failF : FB := ⟨fun _ _ _ => .fail⟩
def slowF (E : Env) (k : FuncId) : FB := ⟨fun ck args S => stepF E (runCR E ck fuelN) k args S⟩
def fastF (x : Bx) (n : Nat) (l : List VB) : FB := ⟨fun ck args S => Bool.rec (motive := fun _ => R) .fail (endX l (x.c ck (initR args 0) [] S)) (Nat.ble (lenR args) n)⟩
def fnB (E : Env) (k : FuncId) : FB := match E.F k with
  | none => failF
  | some fn => match E.I k with
    | some g => ⟨fun _ args S => g args S⟩
    | none => match fn.body with
      | none => failF
      | some c => if hasDefer c then slowF E k else fastF (comp E fn.ntmps c none) fn.ntmps (fn.results.toList.map (resV E.P))
def callX (E : Env) (m : Nat) : CallK := Nat.rec (motive := fun _ => CallK) (fun _ _ _ => .fail) (fun _ ih k args S => (fnB E k).f ih args S) m
theorem endX_ok {E : Env} {fn : Func} {rec : Nat → Code → Fr → St → O} (r : O) : endX (fn.results.toList.map (resV E.P)) r = .fail ∨ endX (fn.results.toList.map (resV E.P)) r = endA E rec fn r := by
  have give : ∀ (f : T AV) (S : St), giveX (fn.results.toList.map (resV E.P)) f S = .fail ∨ giveX (fn.results.toList.map (resV E.P)) f S = giveA E fn f S := fun f S => by
    unfold giveX
    cases hq : resX (fn.results.toList.map (resV E.P)) f S with
    | none => exact .inl rfl
    | some l =>
      refine .inr ?_
      unfold giveA
      rw [resX_ok hq]
  cases r with
  | fail => exact .inl rfl
  | out e f S =>
    obtain ⟨t, d⟩ := f
    cases d with
    | cons x y => exact .inl rfl
    | nil => cases e with
      | normal => exact give t S
      | exit i => exact .inl rfl
      | ret => exact give t S
      | pan a => exact .inr rfl
theorem fnB_ok {E : Env} {ck : CallK} (hck : CkF E ck) (k : FuncId) (args : List AV) (S : St) : (fnB E k).f ck args S = .fail ∨ ((E.F k).isSome = true ∧ ∃ m, (fnB E k).f ck args S = stepF E (runC E (drawnNew E) ck m) k args S) := by
  unfold fnB
  cases hF : E.F k with
  | none => exact .inl rfl
  | some fn =>
    simp only
    cases hI : E.I k with
    | some g => exact .inr ⟨rfl, 0, by simp only [stepF, hI]⟩
    | none =>
      simp only
      cases hb : fn.body with
      | none => exact .inl rfl
      | some c =>
        simp only
        split
        · exact .inr ⟨rfl, fuelN, by show stepF E (runCR E ck fuelN) k args S = _; rw [runCR_eq]⟩
        · show (Bool.rec (motive := fun _ => R) .fail (endX _ ((comp E fn.ntmps c none).c ck (initR args 0) [] S)) (Nat.ble (lenR args) fn.ntmps) : R) = .fail ∨ _ ∧ ∃ m, (Bool.rec (motive := fun _ => R) .fail (endX _ ((comp E fn.ntmps c none).c ck (initR args 0) [] S)) (Nat.ble (lenR args) fn.ntmps) : R) = _
          cases hl : Nat.ble (lenR args) fn.ntmps with
          | false => exact .inl rfl
          | true =>
            have hle : args.length ≤ fn.ntmps := by rw [← lenR_eq]; exact Nat.le_of_ble_eq_true hl
            show endX _ ((comp E fn.ntmps c none).c ck (initR args 0) [] S) = .fail ∨ _ ∧ ∃ m, endX _ ((comp E fn.ntmps c none).c ck (initR args 0) [] S) = _
            rcases comp_ok hck c none (initR args 0) [] S with h | ⟨m, h⟩
            · rw [h]; exact .inl rfl
            · rw [← h]
              rcases endX_ok (E := E) (fn := fn) (rec := runC E (drawnNew E) ck m) (contO none ck (runC E (drawnNew E) ck m fn.ntmps c ⟨initR args 0, []⟩ S)) with h2 | h2
              · exact .inl h2
              · refine .inr ⟨rfl, m, h2.trans ?_⟩
                simp only [stepF, hI, hF, hb, if_pos hle, initR_eq]
                rfl
theorem callX_F {E : Env} : ∀ m, CkF E (callX E m)
  | 0 => fun k args S h => absurd rfl h
  | m + 1 => fun k args S h => by
    rcases fnB_ok (callX_F m) k args S with h2 | ⟨h2, _⟩
    · exact absurd h2 h
    · exact h2
theorem callX_ok {E : Env} (hE : E.Ok) (hI : IntrOk E) (hmix : E.P.follows .mixedOrders = true) : ∀ m base w0, CallOk E base w0 (callX E m)
  | 0, base, w0 => fun k args S h => absurd rfl h
  | m + 1, base, w0 => by
    intro k args S hne γ w vs hS hg hv hF
    rcases fnB_ok (callX_F m) k args S with h2 | ⟨_, j, h2⟩
    · exact absurd h2 hne
    · have e : callX E (m + 1) k args S = stepF E (runC E (drawnNew E) (callX E m) j) k args S := h2
      rw [e] at hne ⊢
      exact stepF_sound hE hI (runC_sound hE (drawnNew_ok hE hmix) (callX_ok hE hI hmix m) j) base w0 k args S hne γ w vs hS hg hv hF
end Go.Ax
noncomputable section
namespace Go.Ax
open Go.RowKit
set_option linter.unusedVariables false
set_option linter.unusedSimpArgs false
section
variable {E : Env}
theorem callsX_true (hE : E.Ok) (hI : IntrOk E) (hmix : E.P.follows .mixedOrders = true) (hG : E.G = fun _ => none) {m : Nat} {k : FuncId} {args : List AV} (h : isTrueR (callX E m k args St0) = true) (hF : (E.F k).isSome = true) {w : World} {vs : List Value} (hv : VRL Gh0 w args vs) :
    Calls E.P k vs.toArray w fun e w' => e = .returned (.bool true) ∧ Below w.heap.size w w' := by
  cases hr : callX E m k args St0 with
  | fail => rw [hr] at h; cases h
  | pan a S => rw [hr] at h; cases h
  | ret a S =>
    rw [hr] at h
    have hne : callX E m k args St0 ≠ .fail := by rw [hr]; exact fun e => by cases e
    have := callX_ok hE hI hmix m w.heap.size w k args St0 hne Gh0 w vs (SR.start w) (by rw [hG]; exact GR.none) hv hF
    rw [hr] at this
    refine this.mono fun e w' he => ?_
    obtain ⟨γ', v, h1, h2, h3, rfl⟩ := he
    unfold isTrueR at h
    split at h
    · rename_i b S' heq
      injection heq with e1 e2
      subst e1; subst h
      cases h3
      exact ⟨rfl, h1.below⟩
    · cases h
theorem codeX_true (hE : E.Ok) (hI : IntrOk E) (hmix : E.P.follows .mixedOrders = true) (hG : E.G = fun _ => none) {m n t : Nat} {c : Code} {f : T AV} (h : endsTrue t ((comp E n c none).c (callX E m) f [] St0) = true) {Q : Exit → Act → World → Prop} {act : Act} {w : World} (hf : FR Gh0 w f act.tmps) (hn : act.tmps.size = n) (hd : act.defers = [])
    (hQ : ∀ act' w', act'.tmps.size = n → act'.defers = [] → act'.tmps[t]? = some (.bool true) → Below w.heap.size w w' → Q .ret act' w') : c.wp E.P Q act w := by
  rcases comp_ok (E := E) (n := n) (callX_F m) c none f [] St0 with h0 | ⟨j, h0⟩
  · rw [h0] at h; cases h
  rw [← h0] at h
  have h : endsTrue t (runC E (drawnNew E) (callX E m) j n c ⟨f, []⟩ St0) = true := h
  refine (runC_sound hE (drawnNew_ok hE hmix) (callX_ok hE hI hmix m) j).code w.heap.size w Q n c Gh0 St0 w ⟨f, []⟩ act (SR.start w) ⟨hf, hn, by rw [hd]; trivial⟩ (by rw [hG]; exact GR.none) ?_
  cases hr : runC E (drawnNew E) (callX E m) j n c ⟨f, []⟩ St0 with
  | fail => rw [hr] at h; cases h
  | out e f' S' =>
    rw [hr] at h
    cases e with
    | normal => cases h
    | exit i => cases h
    | pan a => cases h
    | ret =>
      intro γ' act' w' h1 h2 h3
      show Q .ret act' w'
      simp only [endsTrue] at h
      split at h
      · rename_i hdf
        split at h
        · rename_i b hb
          subst h
          obtain ⟨k1, k2⟩ := h3.tmps t _ hb
          have hdd := h3.dfr
          have hd' : act'.defers = [] := by
            rw [hdf] at hdd
            cases hx : act'.defers with
            | nil => rfl
            | cons a r => rw [hx] at hdd; exact hdd.elim
          refine hQ act' w' h3.size hd' ?_ h1.below
          have e1 : act'.tmps[t]? = some (act'.tmps[t]) := Array.getElem?_eq_getElem k1
          have e2 : act'.tmps.getD t undef = act'.tmps[t] := by simp [k1]
          rw [e1]
          rw [e2] at k2
          generalize act'.tmps[t] = z at k2
          cases k2
          rfl
        · cases h
      · cases h
end
end Go.Ax
