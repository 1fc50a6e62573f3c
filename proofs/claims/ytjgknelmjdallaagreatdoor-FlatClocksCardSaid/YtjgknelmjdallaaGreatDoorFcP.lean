/-
  What an operation looks at: nothing but its operands; operations that leave the state as it is; equal values.
-/
import Derived.Test.YtjgknelmjdallaaGreatDoorFcN
noncomputable section
namespace Go.Ax
open Go.RowKit
set_option linter.unusedVariables false
set_option linter.unusedSimpArgs false

def eqS : Value → Value → Bool
  | .bool a, .bool b => a == b
  | .int j a, .int k b => decide (j = k) && a == b
  | .string a, .string b => a == b
  | .float j a, .float k b => decide (j = k) && a == b
  | .nilFunc, .nilFunc => true
  | .nilIface, .nilIface => true
  | _, _ => false
theorem eqS_eq {x y : Value} (h : eqS x y = true) : x = y := by
  unfold eqS at h
  split at h
  · have := eq_of_beq h; subst this; rfl
  · simp at h; obtain ⟨rfl, rfl⟩ := h; rfl
  · rw [bytes_beq h]
  · simp at h; obtain ⟨rfl, rfl⟩ := h; rfl
  · rfl
  · rfl
  · cases h
theorem eqS_refl {x : Value} (h : scalar x = true) : eqS x x = true := by
  cases x <;> first | (cases h; done) | simp [eqS, bytes_refl]
mutual
def beqA : AV → AV → Bool
  | .v x, .v y => eqS x y
  | .nilp, .nilp => true
  | .ptr i o, .ptr j p => i == j && o == p
  | .ep a, .ep b => beqL a b
  | .nils, .nils => true
  | .sl t o s a, .sl t' o' s' b => t == t' && o == o' && s == s' && beqL a b
  | .nilm, .nilm => true
  | .map i, .map j => i == j
  | .fn f a b, .fn g c d => decide (f = g) && beqL a c && beqL b d
  | .iface t a, .iface u b => t == u && beqA a b
  | .agg a, .agg b => beqL a b
  | .tup a, .tup b => beqL a b
  | .bs i o n s, .bs j p m t => i == j && o == p && n == m && s == t
  | _, _ => false
def beqL : List AV → List AV → Bool
  | [], [] => true
  | a :: as, b :: bs => beqA a b && beqL as bs
  | _, _ => false
end
mutual
theorem beqA_eq : ∀ (a b : AV), beqA a b = true → a = b
  | .v x, b, h => by
    cases b <;> simp only [beqA] at h <;> first | (cases h; done) | rw [eqS_eq h]
  | .nilp, b, h => by cases b <;> simp only [beqA] at h <;> first | (cases h; done) | rfl
  | .nils, b, h => by cases b <;> simp only [beqA] at h <;> first | (cases h; done) | rfl
  | .nilm, b, h => by cases b <;> simp only [beqA] at h <;> first | (cases h; done) | rfl
  | .ptr i o, b, h => by
    cases b <;> simp only [beqA] at h <;> first | (cases h; done) | (simp at h; obtain ⟨rfl, rfl⟩ := h; rfl)
  | .map i, b, h => by
    cases b <;> simp only [beqA] at h <;> first | (cases h; done) | (simp at h; subst h; rfl)
  | .ep a, b, h => by
    cases b <;> simp only [beqA] at h <;> first | (cases h; done) | rw [beqL_eq a _ h]
  | .sl t o s a, b, h => by
    cases b <;> simp only [beqA] at h <;> first | (cases h; done) | (simp only [Bool.and_eq_true, beq_iff_eq] at h; obtain ⟨⟨⟨rfl, rfl⟩, rfl⟩, h⟩ := h; rw [beqL_eq a _ h])
  | .fn f a c, b, h => by
    cases b <;> simp only [beqA] at h <;> first | (cases h; done) | (simp only [Bool.and_eq_true, decide_eq_true_eq] at h; obtain ⟨⟨rfl, h1⟩, h2⟩ := h; rw [beqL_eq a _ h1, beqL_eq c _ h2])
  | .iface t a, b, h => by
    cases b <;> simp only [beqA] at h <;> first | (cases h; done) | (simp only [Bool.and_eq_true, beq_iff_eq] at h; obtain ⟨rfl, h⟩ := h; rw [beqA_eq a _ h])
  | .agg a, b, h => by
    cases b <;> simp only [beqA] at h <;> first | (cases h; done) | rw [beqL_eq a _ h]
  | .tup a, b, h => by
    cases b <;> simp only [beqA] at h <;> first | (cases h; done) | rw [beqL_eq a _ h]
  | .bs i o n s, b, h => by
    cases b <;> simp only [beqA] at h <;> first | (cases h; done) | (simp only [Bool.and_eq_true, beq_iff_eq] at h; obtain ⟨⟨⟨rfl, rfl⟩, rfl⟩, rfl⟩ := h; rfl)
theorem beqL_eq : ∀ (a b : List AV), beqL a b = true → a = b
  | [], b, h => by cases b with
    | nil => rfl
    | cons => simp [beqL] at h
  | a :: as, b, h => by
    cases b with
    | nil => simp [beqL] at h
    | cons b bs =>
      simp only [beqL, Bool.and_eq_true] at h
      rw [beqA_eq a b h.1, beqL_eq as bs h.2]
end

section
variable {E : Env} {f f' : T AV} {S : St} {o : Oper}
theorem mapO_congr {α β : Type} {g h : α → Option β} : ∀ {l : List α}, (∀ x ∈ l, g x = h x) → mapO g l = mapO h l
  | [], _ => rfl
  | x :: r, H => by
    unfold mapO
    rw [H x (List.mem_cons_self ..), mapO_congr fun y hy => H y (List.mem_cons_of_mem _ hy)]
theorem partsA_congr {G : Gl} : ∀ {l : List (Nat × Operand)}, (∀ p ∈ l, evalO G f p.2 = evalO G f' p.2) → partsA G f l = partsA G f' l
  | [], _ => rfl
  | (i, x) :: r, H => by
    unfold partsA
    rw [H (i, x) (List.mem_cons_self ..), partsA_congr fun y hy => H y (List.mem_cons_of_mem _ hy)]
theorem ground_congr {P : Program} {G : Gl} (hs : Op.noSel o.op = true) (H : ∀ x ∈ o.op.operands, evalO G f x = evalO G f' x) : ground P G f S o = ground P G f' S o := by
  have hg : ∀ x ∈ o.op.operands, groundO G f x = groundO G f' x := fun x hx => by unfold groundO; rw [H x hx]
  have h1 : o.op.operands.toList.all (fun x => (groundO G f x).isSome) = o.op.operands.toList.all (fun x => (groundO G f' x).isSome) := by
    rw [Bool.eq_iff_iff, List.all_eq_true, List.all_eq_true]
    constructor <;> intro h x hx
    · rw [← hg x (by simpa using hx)]; exact h x hx
    · rw [hg x (by simpa using hx)]; exact h x hx
  have h2 : execOp (fun x => (groundO G f x).getD undef) o = execOp (fun x => (groundO G f' x).getD undef) o :=
    execOp_congr o (fun cs b e => by rw [e] at hs; cases hs) (fun x hx => by show (groundO G f x).getD undef = (groundO G f' x).getD undef; rw [hg x hx])
  unfold ground
  rw [h1, h2]
theorem exec1_congr (H : ∀ x ∈ o.op.operands, evalO E.G f x = evalO E.G f' x) : exec1 E f S o = exec1 E f' S o := by
  have hg : Op.noSel o.op = true → ground E.P E.G f S o = ground E.P E.G f' S o := fun hs => ground_congr hs H
  obtain ⟨dst, op, ty, pos, after, guard⟩ := o
  cases op
  case slice t x lo hi mx =>
    have h1 : ∀ y ∈ lo.toList, evalO E.G f y = evalO E.G f' y := fun y hy => H y (by simp [Op.operands]; simp at hy; simp [hy])
    have h2 : ∀ y ∈ hi.toList, evalO E.G f y = evalO E.G f' y := fun y hy => H y (by simp [Op.operands]; simp at hy; simp [hy])
    have hx := H x (by simp [Op.operands])
    have hg := hg rfl
    cases mx with
    | none => simp only [exec1, hx, mapO_congr h1, mapO_congr h2, hg]
    | some m =>
      have hm := H m (by simp [Op.operands])
      simp only [exec1, slice3A]
      cases lo with
      | some l => rfl
      | none =>
        cases hi with
        | none => rfl
        | some h => simp only [hx, hm, h2 h (by simp)]
  case binOp op t x y u =>
    have hx := H x (by simp [Op.operands])
    have hy := H y (by simp [Op.operands])
    have hg := hg rfl
    simp only [exec1, hx, hy, eqOr, hg]
  case build t ps => simp only [exec1]; rw [partsA_congr fun p hp => H p.2 (by simp [Op.operands]; exact ⟨p.1, by simpa using hp⟩)]
  case buildSlice t n ps => simp only [exec1]; rw [partsA_congr fun p hp => H p.2 (by simp [Op.operands]; exact ⟨p.1, by simpa using hp⟩)]
  case makeFunc fn a b =>
    simp only [exec1]
    rw [mapO_congr fun x hx => H x (by simp [Op.operands]; exact .inl (by simpa using hx)), mapO_congr fun x hx => H x (by simp [Op.operands]; exact .inr (by simpa using hx))]
  case makeMap t r => cases r <;> rfl
  case call c =>
    have hargs : ∀ x ∈ c.args.toList, evalO E.G f x = evalO E.G f' x := fun x hx => H x (by simp [Op.operands, Call.operands]; exact .inr (by simpa using hx))
    have hg := hg rfl
    simp only [exec1, callA]
    cases hc : c.callee with
    | value fo =>
      have hfo := H fo (by simp [Op.operands, Call.operands, hc])
      simp only [hfo, mapO_congr hargs]
    | invoke r m => rfl
    | builtin b =>
      cases b <;> simp only [hg]
      · cases hl : c.args.toList with
        | nil => rfl
        | cons x r =>
          rw [hl] at hargs
          cases r with
          | nil => rfl
          | cons y r2 =>
            cases r2 with
            | nil =>
              generalize c.argTypes.toList = ts
              rcases ts with _ | ⟨t, _ | ⟨u, _ | ⟨v, vs⟩⟩⟩ <;> first | rfl | simp only [hargs x (by simp), hargs y (by simp)]
            | cons => rfl
      · cases hl : c.args.toList with
        | nil => rfl
        | cons x r =>
          rw [hl] at hargs
          cases r with
          | nil =>
            generalize c.argTypes.toList = ts
            rcases ts with _ | ⟨t, _ | ⟨u, us⟩⟩ <;> first | rfl | simp only [hargs x (by simp)]
          | cons => rfl
  case defer c =>
    have hargs : ∀ x ∈ c.args.toList, evalO E.G f x = evalO E.G f' x := fun x hx => H x (by simp [Op.operands, Call.operands]; exact .inr (by simpa using hx))
    simp only [exec1, deferA]
    cases hc : c.callee with
    | value fo =>
      have hfo := H fo (by simp [Op.operands, Call.operands, hc])
      simp only [hfo, mapO_congr hargs]
    | invoke r m => rfl
    | builtin b => rfl
  all_goals first
    | (simp only [exec1]; done)
    | (simp only [exec1]
       simp only [Op.operands] at H
       first
       | (rw [H _ (by simp)]; done)
       | (have hg := hg rfl
          simp only [H _ (List.mem_toArray.2 (List.mem_cons_self ..)), hg]; done)
       | (simp only [H _ (List.mem_toArray.2 (List.mem_cons_self ..)), H _ (List.mem_toArray.2 (List.mem_cons_of_mem _ (List.mem_cons_self ..)))]; done)
       | (have hg := hg rfl
          simp only [H _ (List.mem_toArray.2 (List.mem_cons_self ..)), H _ (List.mem_toArray.2 (List.mem_cons_of_mem _ (List.mem_cons_self ..))), hg]; done)
       | (simp only [H _ (List.mem_toArray.2 (List.mem_cons_self ..)), H _ (List.mem_toArray.2 (List.mem_cons_of_mem _ (List.mem_cons_self ..))), H _ (List.mem_toArray.2 (List.mem_cons_of_mem _ (List.mem_cons_of_mem _ (List.mem_cons_self ..))))]; done)
       | skip)
end
end Go.Ax
