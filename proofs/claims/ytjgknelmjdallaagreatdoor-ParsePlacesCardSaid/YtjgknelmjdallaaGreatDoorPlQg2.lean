/-
  What the parser's reading answers, whatever the tokens: it comes to an end, goes on, and each word that it tells of stands where it says.
-/
import Derived.Test.YtjgknelmjdallaaGreatDoorPlQe
import Derived.Test.YtjgknelmjdallaaGreatDoorPlPq2
noncomputable section
namespace Go.Ax
open Go.RowKit Go.Proofs
set_option linter.unusedVariables false
set_option linter.unusedSimpArgs false
set_option maxRecDepth 100000
def Sat {α : Type} (Q : α → Nat → Prop) (x : PR α) : Prop := x ≠ .out ∧ ∀ a j, x = .ok a j → Q a j
theorem Sat.ok {α : Type} {Q : α → Nat → Prop} {a : α} {j : Nat} (h : Q a j) : Sat Q (.ok a j) := ⟨(fun e => by cases e), (fun a' j' e => by injection e with e1 e2; subst e1; subst e2; exact h)⟩
theorem Sat.bad {α : Type} {Q : α → Nat → Prop} {a e : Nat} : Sat Q (.bad a e) := ⟨(fun e => by cases e), (fun _ _ e => by cases e)⟩
theorem Sat.bind {α β : Type} {Q : α → Nat → Prop} {R : β → Nat → Prop} {x : PR α} {f : α → Nat → PR β} (hx : Sat Q x) (hf : ∀ a j, Q a j → Sat R (f a j)) : Sat R (x.bind f) := by
  cases x with
  | ok a j => exact hf a j (hx.2 a j rfl)
  | bad a e => exact Sat.bad
  | out => exact absurd rfl hx.1
theorem Sat.mono {α : Type} {Q R : α → Nat → Prop} {x : PR α} (hx : Sat Q x) (h : ∀ a j, Q a j → R a j) : Sat R x := ⟨hx.1, fun a j e => h a j (hx.2 a j e)⟩
theorem Sat.ite {α : Type} {Q : α → Nat → Prop} {c : Prop} [Decidable c] {x y : PR α} (h1 : c → Sat Q x) (h2 : ¬ c → Sat Q y) : Sat Q (if c then x else y) := by
  by_cases h : c
  · rw [if_pos h]; exact h1 h
  · rw [if_neg h]; exact h2 h
section
variable {ts : List Tk} (hts : TokOk ts)
include hts
theorem F0 {i : Nat} (hi : i < ts.length) {ws : List (List UInt8)} (hw : [] ∉ ws) (h : (tk ts i).text ∈ ws) : i + 1 < ts.length := by
  rw [Iu hi] at h
  exact hts.next hi (fun e => hw (e ▸ h))
theorem Gy {i : Nat} (hi : i < ts.length) {ws : List (List UInt8)} (hw : [] ∉ ws) : Sat (fun t j => t = tk ts i ∧ j = i + 1 ∧ j < ts.length ∧ t.text ∈ ws) (Ec ts ws i) := by
  unfold Ec
  exact .ite (fun h => .ok ⟨rfl, rfl, F0 hts hi hw h, h⟩) (fun _ => .bad)
theorem Nm {i : Nat} (hi : i < ts.length) {kd : Nat} (hk : kd ≠ 5) : Sat (fun t j => t = tk ts i ∧ j = i + 1 ∧ j < ts.length) (F4 ts kd i) := by
  unfold F4
  exact .ite (fun h => .ok ⟨rfl, rfl, hts.more i hi (by rw [← Iu hi, h]; exact hk)⟩) (fun _ => .bad)
theorem gL {i : Nat} (hi : i < ts.length) : Sat (fun _ j => i < j ∧ j < ts.length) (Ky ts i) := by
  unfold Ky
  refine .ite (fun h => ?_) (fun _ => ?_)
  · have := F0 hts hi (ws := [[110, 111, 116]]) (by decide) h
    exact (Nm hts this (by decide)).bind fun t j h => .ok ⟨by omega, h.2.2⟩
  · exact (Nm hts hi (by decide)).bind fun t j h => .ok ⟨by omega, h.2.2⟩
end
/-- A token's text stands in the text. -/
def L1 (s : List UInt8) (ts : List Tk) : Prop := ∀ i, i < ts.length → stB s (tk ts i).text (tk ts i).pos = true
def Jx (s : List UInt8) (e : PE) : Prop := stB s (Pu e) (Wz e) = true
theorem eN {s w : List UInt8} {a : Nat} (h : stB s w a = true) : stB s [] a = true := by
  unfold stB at h ⊢
  rw [Bool.and_eq_true] at h
  have := h.1
  simp at this ⊢; omega
section
variable {ts : List Tk} (hts : TokOk ts) {s : List UInt8} (hat : L1 s ts)
include hts hat
theorem lT {i : Nat} (hi : i < ts.length) : Sat (fun e j => i < j ∧ j < ts.length ∧ AllP (Jx s) e) (Oj ts i) := by
  have h0 : ts[i]? = some (tk ts i) := by rw [Iu hi]; exact List.getElem?_eq_getElem hi
  have hg := eN (hat i hi)
  unfold Oj
  rw [h0]
  simp only
  refine .ite (fun h => ?_) (fun _ => ?_)
  · have h1 : i + 1 < ts.length := F0 hts hi (ws := [[45]]) (by decide) (by rw [h]; simp)
    have h2 : ts[i + 1]? = some (tk ts (i + 1)) := by rw [Iu h1]; exact List.getElem?_eq_getElem h1
    rw [h2]
    simp only
    refine .ite (fun h3 => ?_) (fun _ => .bad)
    exact .ok ⟨by omega, hts.more _ h1 (by rw [← Iu h1, h3]; decide), .mk _ _ _ _ _ _ hg (fun _ h => by cases h)⟩
  · refine .ite (fun h3 => ?_) (fun _ => .bad)
    refine .ite (fun _ => .bad) (fun _ => ?_)
    exact .ok ⟨by omega, hts.more _ hi (by rw [← Iu hi, h3]; decide), .mk _ _ _ _ _ _ hg (fun _ h => by cases h)⟩
/- LOOPS -/
omit hts hat in
theorem aY {pos : Nat} {w : List UInt8} {x y : PE} (h : stB s w pos = true) (hx : AllP (Jx s) x) (hy : AllP (Jx s) y) : AllP (Jx s) (.mk 6 pos 0 w false [x, y]) := by
  refine .mk _ _ _ _ _ _ ?_ (fun e he => ?_)
  · show stB s (Hp (Ke w) _) _ = true
    simpa [Ke, Hp, mT, Wz] using h
  · simp at he; rcases he with rfl | rfl
    · exact hx
    · exact hy
omit hts hat in
theorem J5 {k pos : Nat} {name w : List UInt8} {n : Int} {off : Bool} {kids : List PE} (hk : Hp (Ke name) (k : Int) = w) (h : stB s w pos = true) (hkids : ∀ e ∈ kids, AllP (Jx s) e) : AllP (Jx s) (.mk k pos n name off kids) := by
  refine .mk _ _ _ _ _ _ ?_ hkids
  show stB s (Hp (Ke name) (k : Int)) pos = true
  rw [hk]; exact h
theorem Z0 {lo : Nat} {ws : List (List UInt8)} (hw : [] ∉ ws) {kid : Nat → PR PE} (hk : ∀ i, lo ≤ i → i < ts.length → Sat (fun e j => i < j ∧ j < ts.length ∧ AllP (Jx s) e) (kid i)) : ∀ (n : Nat) (x : PE) (i : Nat), lo ≤ i → i < ts.length → AllP (Jx s) x → ts.length - i < n → Sat (fun e j => i ≤ j ∧ j < ts.length ∧ AllP (Jx s) e) (K7 ts ws kid n x i)
  | 0, x, i, h1, h2, h3, h4 => absurd h4 (Nat.not_lt_zero _)
  | n + 1, x, i, h1, h2, h3, h4 => by
    unfold K7
    refine .ite (fun h => ?_) (fun _ => .ok ⟨Nat.le_refl _, h2, h3⟩)
    have h5 := F0 hts h2 hw h
    refine (hk (i + 1) (by omega) h5).bind fun y j ⟨a, b, c⟩ => ?_
    exact (Z0 hw hk n _ j (by omega) b (aY (hat i h2) h3 c) (by omega)).mono fun e m ⟨a2, b2, c2⟩ => ⟨by omega, b2, c2⟩
theorem kK : ∀ (n : Nat) (x : PE) (i : Nat), i < ts.length → AllP (Jx s) x → ts.length - i < n → Sat (fun e j => i ≤ j ∧ j < ts.length ∧ AllP (Jx s) e) (N1 ts n x i)
  | 0, x, i, h2, h3, h4 => absurd h4 (Nat.not_lt_zero _)
  | n + 1, x, i, h2, h3, h4 => by
    unfold N1
    refine .ite (fun h => ?_) (fun _ => .ok ⟨Nat.le_refl _, h2, h3⟩)
    have h5 := F0 hts h2 (ws := [[119, 104, 101, 110]]) (by decide) h
    have hg := hat i h2
    rw [show (tk ts i).text = [119, 104, 101, 110] by simpa using h] at hg
    refine (gL hts h5).bind fun c j ⟨a, b⟩ => ?_
    exact (kK n _ j b (J5 (by simp [Ke, Hp]) hg (fun e he => by simp at he; subst he; exact h3)) (by omega)).mono fun e m ⟨a2, b2, c2⟩ => ⟨by omega, b2, c2⟩
omit hat in
theorem cP {lo : Nat} {kid : Nat → PR PE} (hk : ∀ i, lo ≤ i → i < ts.length → Sat (fun e j => i < j ∧ j < ts.length ∧ AllP (Jx s) e) (kid i)) : ∀ (n : Nat) (l : List PE) (i : Nat), lo ≤ i → i < ts.length → (∀ e ∈ l, AllP (Jx s) e) → ts.length - i < n → Sat (fun l j => i < j ∧ j < ts.length ∧ ∀ e ∈ l, AllP (Jx s) e) (H5 ts kid n l i)
  | 0, l, i, h1, h2, h3, h4 => absurd h4 (Nat.not_lt_zero _)
  | n + 1, l, i, h1, h2, h3, h4 => by
    unfold H5
    refine .ite (fun h => ?_) (fun _ => ?_)
    · have h5 := F0 hts h2 (ws := [[44]]) (by decide) h
      refine (hk (i + 1) (by omega) h5).bind fun y j ⟨a, b, c⟩ => ?_
      exact (cP hk n _ j (by omega) b (fun e he => (List.mem_append.1 he).elim (fun he => h3 e he) (fun he => by simp at he; subst he; exact c)) (by omega)).mono fun e m ⟨a2, b2, c2⟩ => ⟨by omega, b2, c2⟩
    · exact (Gy hts h2 (ws := [[41]]) (by decide)).bind fun _ j ⟨_, a, b, _⟩ => .ok ⟨by omega, b, h3⟩
omit hat in
theorem list_s {i : Nat} {kid : Nat → PR PE} (hk : ∀ i', i < i' → i' < ts.length → Sat (fun e j => i' < j ∧ j < ts.length ∧ AllP (Jx s) e) (kid i')) (n : Nat) (hi : i < ts.length) (hn : ts.length - i ≤ n) : Sat (fun l j => i < j ∧ j < ts.length ∧ ∀ e ∈ l, AllP (Jx s) e) (Pn ts kid n i) := by
  unfold Pn
  refine (Gy hts hi (ws := [[40]]) (by decide)).bind fun _ j ⟨_, a, b, _⟩ => ?_
  refine .ite (fun h => ?_) (fun _ => ?_)
  · exact .ok ⟨by omega, F0 hts b (ws := [[41]]) (by decide) h, fun e he => by cases he⟩
  · refine (hk j (by omega) b).bind fun x m ⟨a1, b1, c1⟩ => ?_
    exact (cP hts (lo := i + 1) (fun i' h1 h2 => hk i' (by omega) h2) n [x] m (by omega) b1 (fun e he => by simp at he; subst he; exact c1) (by omega)).mono fun e m ⟨a2, b2, c2⟩ => ⟨by omega, b2, c2⟩
omit hts in
theorem eK {i : Nat} (hi : i < ts.length) : AllP (Jx s) (Pw (tk ts i)) := J5 rfl (eN (hat i hi)) (fun e he => by cases he)
omit hts hat in
def G7 : NT → Nat
  | .expr => 12 | .arrow => 11 | .or => 10 | .and => 9 | .not => 8 | .sum => 7 | .term => 6 | .unary => 5 | .when => 4 | .primary => 3 | .name => 2 | .brk => 2 | .call => 1 | .lit => 0
set_option maxHeartbeats 4000000 in
theorem P_s : ∀ (n : Nat) (nt : NT) (i : Nat), i < ts.length → 16 * (ts.length - i) + G7 nt < n → Sat (fun e j => i < j ∧ j < ts.length ∧ AllP (Jx s) e) (P ts n nt i)
  | 0, nt, i, hi, hn => absurd hn (Nat.not_lt_zero _)
  | n + 1, nt, i, hi, hn => by
    have ih := fun (nt : NT) (i' : Nat) (h1 : i' < ts.length) (h2 : 16 * (ts.length - i') + G7 nt < n) => P_s n nt i' h1 h2
    have later : ∀ (nt : NT) (i' : Nat), i < i' → i' < ts.length → Sat (fun e j => i' < j ∧ j < ts.length ∧ AllP (Jx s) e) (P ts n nt i') := fun nt i' h1 h2 => ih nt i' h2 (by cases nt <;> simp only [G7] <;> omega)
    have two : ∀ {x y : PE}, AllP (Jx s) x → AllP (Jx s) y → ∀ e ∈ [x, y], AllP (Jx s) e := fun hx hy e he => by
      simp at he; rcases he with rfl | rfl
      · exact hx
      · exact hy
    have one : ∀ {x : PE}, AllP (Jx s) x → ∀ e ∈ [x], AllP (Jx s) e := fun hx e he => by simp at he; subst he; exact hx
    cases nt with
    | expr =>
      simp only [G7] at hn
      show Sat _ (if _ then _ else _)
      refine .ite (fun h => ?_) (fun _ => ih .arrow i hi (by simp only [G7]; omega))
      have h5 := F0 hts hi (ws := [[105, 102]]) (by decide) h
      have hg := hat i hi
      rw [show (tk ts i).text = [105, 102] by simpa using h] at hg
      refine (later .expr (i + 1) (by omega) h5).bind fun c j ⟨a1, b1, c1⟩ => ?_
      refine (Gy hts b1 (by decide)).bind fun _ j2 ⟨_, a2, b2, _⟩ => ?_
      refine (later .expr j2 (by omega) b2).bind fun y j3 ⟨a3, b3, c3⟩ => ?_
      refine (Gy hts b3 (by decide)).bind fun _ j4 ⟨_, a4, b4, _⟩ => ?_
      refine (later .expr j4 (by omega) b4).bind fun z j5 ⟨a5, b5, c5⟩ => ?_
      refine .ok ⟨by omega, b5, J5 (by simp [Ke, Hp]) hg (fun e he => ?_)⟩
      simp at he; rcases he with rfl | rfl | rfl
      · exact c1
      · exact c3
      · exact c5
    | arrow =>
      simp only [G7] at hn
      show Sat _ (PR.bind _ _)
      refine (ih .or i hi (by simp only [G7]; omega)).bind fun x j ⟨a1, b1, c1⟩ => ?_
      refine .ite (fun h => ?_) (fun _ => .ite (fun _ => .ok ⟨a1, b1, c1⟩) (fun _ => .ite (fun h => ?_) (fun _ => .ok ⟨a1, b1, c1⟩)))
      · have h5 := F0 hts b1 (ws := [[45, 62]]) (by decide) h
        have hg := hat j b1
        rw [show (tk ts j).text = [45, 62] by simpa using h] at hg
        refine (later .arrow (j + 1) (by omega) h5).bind fun y m ⟨a2, b2, c2⟩ => .ok ⟨by omega, b2, J5 (by simp [Ke, Hp]) hg (two c1 c2)⟩
      · have h5 := F0 hts b1 (ws := [[102, 98, 121]]) (by decide) h
        have hg := hat j b1
        rw [show (tk ts j).text = [102, 98, 121] by simpa using h] at hg
        refine (later .arrow (j + 1) (by omega) h5).bind fun y m ⟨a2, b2, c2⟩ => .ok ⟨by omega, b2, J5 (by simp [Ke, Hp]) hg (two c1 c2)⟩
    | or =>
      simp only [G7] at hn
      show Sat _ (PR.bind _ _)
      refine (ih .and i hi (by simp only [G7]; omega)).bind fun x j ⟨a1, b1, c1⟩ => ?_
      exact (Z0 hts hat (lo := i + 1) (by decide) (fun i' h1 h2 => later .and i' (by omega) h2) n x j (by omega) b1 c1 (by omega)).mono fun e m ⟨a2, b2, c2⟩ => ⟨by omega, b2, c2⟩
    | and =>
      simp only [G7] at hn
      show Sat _ (PR.bind _ _)
      refine (ih .not i hi (by simp only [G7]; omega)).bind fun x j ⟨a1, b1, c1⟩ => ?_
      exact (Z0 hts hat (lo := i + 1) (by decide) (fun i' h1 h2 => later .not i' (by omega) h2) n x j (by omega) b1 c1 (by omega)).mono fun e m ⟨a2, b2, c2⟩ => ⟨by omega, b2, c2⟩
    | not =>
      simp only [G7] at hn
      show Sat _ (if _ then _ else _)
      refine .ite (fun h => ?_) (fun _ => ?_)
      · have h5 := F0 hts hi (ws := [[110, 111, 116]]) (by decide) h
        have hg := hat i hi
        rw [show (tk ts i).text = [110, 111, 116] by simpa using h] at hg
        exact (later .not (i + 1) (by omega) h5).bind fun x j ⟨a, b, c⟩ => .ok ⟨by omega, b, J5 (by simp [Ke, Hp]) hg (one c)⟩
      · refine (ih .sum i hi (by simp only [G7]; omega)).bind fun x j ⟨a1, b1, c1⟩ => ?_
        refine .ite (fun h => ?_) (fun _ => .ok ⟨a1, b1, c1⟩)
        have h5 := F0 hts b1 (ws := [[61], [60, 62], [60], [60, 61], [62], [62, 61]]) (by decide) h
        exact (later .sum (j + 1) (by omega) h5).bind fun y m ⟨a2, b2, c2⟩ => .ok ⟨by omega, b2, aY (hat j b1) c1 c2⟩
    | sum =>
      simp only [G7] at hn
      show Sat _ (PR.bind _ _)
      refine (ih .term i hi (by simp only [G7]; omega)).bind fun x j ⟨a1, b1, c1⟩ => ?_
      exact (Z0 hts hat (lo := i + 1) (by decide) (fun i' h1 h2 => later .term i' (by omega) h2) n x j (by omega) b1 c1 (by omega)).mono fun e m ⟨a2, b2, c2⟩ => ⟨by omega, b2, c2⟩
    | term =>
      simp only [G7] at hn
      show Sat _ (PR.bind _ _)
      refine (ih .unary i hi (by simp only [G7]; omega)).bind fun x j ⟨a1, b1, c1⟩ => ?_
      exact (Z0 hts hat (lo := i + 1) (by decide) (fun i' h1 h2 => later .unary i' (by omega) h2) n x j (by omega) b1 c1 (by omega)).mono fun e m ⟨a2, b2, c2⟩ => ⟨by omega, b2, c2⟩
    | unary =>
      simp only [G7] at hn
      show Sat _ (if _ then _ else _)
      refine .ite (fun h => ?_) (fun _ => .ite (fun _ => lT hts hat hi) (fun _ => .ite (fun h => ?_) (fun _ => ih .when i hi (by simp only [G7]; omega))))
      · have h5 := F0 hts hi (ws := [[112, 114, 101]]) (by decide) h
        have hg := hat i hi
        rw [show (tk ts i).text = [112, 114, 101] by simpa using h] at hg
        exact (later .unary (i + 1) (by omega) h5).bind fun x j ⟨a, b, c⟩ => .ok ⟨by omega, b, J5 (by simp [Ke, Hp]) hg (one c)⟩
      · have h5 := F0 hts hi (ws := [[45]]) (by decide) h
        have hg := hat i hi
        rw [show (tk ts i).text = [45] by simpa using h] at hg
        exact (later .unary (i + 1) (by omega) h5).bind fun x j ⟨a, b, c⟩ => .ok ⟨by omega, b, J5 (by simp [Ke, Hp]) hg (one c)⟩
    | when =>
      simp only [G7] at hn
      show Sat _ (PR.bind _ _)
      refine (ih .primary i hi (by simp only [G7]; omega)).bind fun x j ⟨a1, b1, c1⟩ => ?_
      exact (kK hts hat n x j b1 c1 (by omega)).mono fun e m ⟨a2, b2, c2⟩ => ⟨by omega, b2, c2⟩
    | primary =>
      simp only [G7] at hn
      show Sat _ (if _ then _ else _)
      refine .ite (fun _ => lT hts hat hi) (fun _ => .ite (fun _ => ih .name i hi (by simp only [G7]; omega)) (fun _ => .ite (fun h => ?_) (fun _ => .ite (fun h => ?_) (fun _ => .ite (fun h => ?_) (fun _ => ih .brk i hi (by simp only [G7]; omega))))))
      · exact .ok ⟨by omega, F0 hts hi (ws := [[116, 114, 117, 101], [102, 97, 108, 115, 101]]) (by decide) (by simpa using h), eK hat hi⟩
      · have h5 := F0 hts hi (ws := [[109, 101, 114, 103, 101]]) (by decide) (by simpa using h)
        have hg := hat i hi
        rw [h] at hg
        refine (Nm hts h5 (by decide)).bind fun t j ⟨_, a1, b1⟩ => ?_
        refine (later .brk j (by omega) b1).bind fun x j2 ⟨a2, b2, c2⟩ => ?_
        refine (later .brk j2 (by omega) b2).bind fun y j3 ⟨a3, b3, c3⟩ => ?_
        exact .ok ⟨by omega, b3, J5 (by simp [Ke, Hp]) hg (two c2 c3)⟩
      · have h5 := F0 hts hi (ws := [[97, 119, 97, 105, 116]]) (by decide) (by simpa using h)
        have hg := hat i hi
        rw [h] at hg
        refine (Nm hts h5 (by decide)).bind fun t j ⟨_, a1, b1⟩ => ?_
        refine .ite (fun h => ?_) (fun _ => .ok ⟨by omega, b1, J5 (by simp [Ke, Hp]) hg (fun e he => by cases he)⟩)
        have h6 := F0 hts b1 (ws := [[97, 102, 116, 101, 114]]) (by decide) h
        refine (Gy hts h6 (by decide)).bind fun _ j2 ⟨_, a2, b2, _⟩ => ?_
        refine (later .lit j2 (by omega) b2).bind fun x m ⟨a3, b3, c3⟩ => ?_
        refine (cP hts (lo := i + 1) (fun i' h1 h2 => later .lit i' (by omega) h2) n [x] m (by omega) b3 (one c3) (by omega)).bind fun l m2 ⟨a4, b4, c4⟩ => ?_
        exact .ok ⟨by omega, b4, J5 (by simp [Ke, Hp]) hg c4⟩
    | name =>
      simp only [G7] at hn
      show Sat _ (if _ then _ else _)
      refine .ite (fun _ => ih .call i hi (by simp only [G7]; omega)) (fun _ => ?_)
      refine (Nm hts hi (by decide)).bind fun t j ⟨h1, a1, b1⟩ => .ok ⟨by omega, b1, J5 (w := t.text) (by simp [Ke, Hp]) (by rw [h1]; exact hat i hi) (fun e he => by cases he)⟩
    | call =>
      simp only [G7] at hn
      show Sat _ (PR.bind _ _)
      refine (Nm hts hi (by decide)).bind fun t j ⟨h1, a1, b1⟩ => ?_
      refine (list_s hts (fun i' h1 h2 => later .expr i' (by omega) h2) n b1 (by omega)).bind fun l m ⟨a2, b2, c2⟩ => ?_
      exact .ok ⟨by omega, b2, J5 (w := t.text) (by simp [Ke, Hp]) (by rw [h1]; exact hat i hi) c2⟩
    | brk =>
      simp only [G7] at hn
      show Sat _ (PR.bind _ _)
      refine (Gy hts hi (by decide)).bind fun _ j ⟨_, a1, b1, _⟩ => ?_
      refine (later .expr j (by omega) b1).bind fun x j2 ⟨a2, b2, c2⟩ => ?_
      exact (Gy hts b2 (by decide)).bind fun _ j3 ⟨_, a3, b3, _⟩ => .ok ⟨by omega, b3, c2⟩
    | lit =>
      simp only [G7] at hn
      show Sat _ (if _ then _ else _)
      refine .ite (fun h => ?_) (fun _ => lT hts hat hi)
      exact .ok ⟨by omega, F0 hts hi (ws := [[116, 114, 117, 101], [102, 97, 108, 115, 101]]) (by decide) h, eK hat hi⟩
end
end Go.Ax
noncomputable section
namespace Go.Ax
open Go.RowKit Go.Proofs
set_option linter.unusedVariables false
set_option linter.unusedSimpArgs false
set_option maxRecDepth 100000
def V5 (s : List UInt8) (d : PD) : Prop := stB s d.name d.pos = true
def bV (s : List UInt8) (x : List UInt8 × Nat) : Prop := stB s x.1 x.2 = true
def bU (s : List UInt8) (L : Nat) (q : PQ) : Prop := (∀ x ∈ q.left, bV s x) ∧ AllP (fun e => Wide e ∧ Jx s e) q.e ∧ q.left.length ≤ L
def V4 (s : List UInt8) (L : Nat) (n : PN) : Prop := stB s n.name n.pos = true ∧ (∀ d ∈ n.ins ++ n.outs ++ n.vars, V5 s d) ∧ (∀ q ∈ n.eqs, bU s L q) ∧ n.ins.length + n.outs.length + n.vars.length ≤ L ∧ n.eqs.length ≤ L
theorem kJ {B : PE → Prop} : ∀ {e : PE}, AllP B e → Wide e → AllP (fun e => Wide e ∧ B e) e := fun {e} h => by
  induction h with
  | mk kind pos n name off kids hb hk ih =>
    intro hw
    have hw2 := hw
    cases hw with
    | mk _ _ _ _ _ _ hl hkw => exact .mk _ _ _ _ _ _ ⟨hw2, hb⟩ (fun e he => ih e he (hkw e he))
section
variable {ts : List Tk} (hts : TokOk ts) {s : List UInt8} (hat : L1 s ts)
include hts
theorem dX (hat : L1 s ts) {i : Nat} (hi : i < ts.length) : Sat (fun d j => i < j ∧ j < ts.length ∧ V5 s d) (Ks ts i) := by
  unfold Ks
  refine (Nm hts hi (by decide)).bind fun t j ⟨h1, a1, b1⟩ => ?_
  have hg : stB s t.text t.pos = true := by rw [h1]; exact hat i hi
  refine (Gy hts b1 (by decide)).bind fun _ j2 ⟨_, a2, b2, _⟩ => ?_
  refine .ite (fun h => ?_) (fun _ => ?_)
  · have h5 := F0 hts b2 (ws := [[102, 117, 116, 117, 114, 101]]) (by decide) h
    exact (Gy hts h5 (by decide)).bind fun u m ⟨_, a3, b3, _⟩ => .ok ⟨by omega, b3, hg⟩
  · exact (Gy hts b2 (by decide)).bind fun u m ⟨_, a3, b3, _⟩ => .ok ⟨by omega, b3, hg⟩
theorem Xp (hat : L1 s ts) {i : Nat} (hi : i < ts.length) : Sat (fun d j => i < j ∧ j < ts.length ∧ V5 s d) (G3 ts i) := by
  unfold G3
  refine (dX hts hat hi).bind fun d j ⟨a1, b1, c1⟩ => ?_
  refine .ite (fun h => ?_) (fun _ => ?_)
  · have h5 := F0 hts b1 (ws := [[119, 104, 101, 110]]) (by decide) h
    refine (gL hts h5).bind fun c j2 ⟨a2, b2⟩ => ?_
    exact (Gy hts b2 (by decide)).bind fun u m ⟨_, a3, b3, _⟩ => .ok ⟨by omega, b3, c1⟩
  · exact (Gy hts b1 (by decide)).bind fun u m ⟨_, a3, b3, _⟩ => .ok ⟨by omega, b3, c1⟩
theorem Ys (hat : L1 s ts) {i : Nat} (hi : i < ts.length) : Sat (fun d j => i < j ∧ j < ts.length ∧ bV s d) (Jl ts i) := by
  unfold Jl
  refine (Nm hts hi (by decide)).bind fun t j ⟨h1, a1, b1⟩ => .ok ⟨by omega, b1, ?_⟩
  show stB s t.text t.pos = true
  rw [h1]; exact hat i hi
theorem Yh {α : Type} {G : α → Prop} {kid : Nat → PR α} (hk : ∀ i, i < ts.length → Sat (fun e j => i < j ∧ j < ts.length ∧ G e) (kid i)) : ∀ (n : Nat) (l : List α) (i : Nat), i < ts.length → (∀ e ∈ l, G e) → ts.length - i < n → Sat (fun r j => i < j ∧ j < ts.length ∧ (∀ e ∈ r, G e) ∧ r.length + i ≤ l.length + j) (H8 ts kid n l i)
  | 0, l, i, h2, h3, h4 => absurd h4 (Nat.not_lt_zero _)
  | n + 1, l, i, h2, h3, h4 => by
    unfold H8
    refine .ite (fun h => ?_) (fun _ => ?_)
    · have h5 := F0 hts h2 (ws := [[44]]) (by decide) h
      refine (hk (i + 1) h5).bind fun y j ⟨a, b, c⟩ => ?_
      exact (Yh hk n _ j b (fun e he => (List.mem_append.1 he).elim (fun he => h3 e he) (fun he => by simp at he; subst he; exact c)) (by omega)).mono fun e m ⟨a2, b2, c2, d2⟩ => ⟨by omega, b2, c2, by simp at d2; omega⟩
    · exact (Gy hts h2 (ws := [[41]]) (by decide)).bind fun _ j ⟨_, a, b, _⟩ => .ok ⟨by omega, b, h3, by omega⟩
theorem fK {α : Type} {G : α → Prop} {kid : Nat → PR α} (hk : ∀ i, i < ts.length → Sat (fun e j => i < j ∧ j < ts.length ∧ G e) (kid i)) (n : Nat) {i : Nat} (hi : i < ts.length) (hn : ts.length ≤ n) : Sat (fun r j => i < j ∧ j < ts.length ∧ (∀ e ∈ r, G e) ∧ r.length + i ≤ j) (On ts kid n i) := by
  unfold On
  refine (Gy hts hi (ws := [[40]]) (by decide)).bind fun _ j ⟨_, a, b, _⟩ => ?_
  refine .ite (fun h => ?_) (fun _ => ?_)
  · exact .ok ⟨by omega, F0 hts b (ws := [[41]]) (by decide) h, (fun e he => by cases he), by simp; omega⟩
  · refine (hk j b).bind fun x m ⟨a1, b1, c1⟩ => ?_
    exact (Yh hts hk n [x] m b1 (fun e he => by simp at he; subst he; exact c1) (by omega)).mono fun e m ⟨a2, b2, c2, d2⟩ => ⟨by omega, b2, c2, by simp at d2; omega⟩
theorem kL (hat : L1 s ts) : ∀ (n : Nat) (l : List PD) (i : Nat), i < ts.length → (∀ e ∈ l, V5 s e) → ts.length - i < n → Sat (fun r j => i ≤ j ∧ j < ts.length ∧ (∀ e ∈ r, V5 s e) ∧ r.length + i ≤ l.length + j) (N2 ts n l i)
  | 0, l, i, h2, h3, h4 => absurd h4 (Nat.not_lt_zero _)
  | n + 1, l, i, h2, h3, h4 => by
    unfold N2
    refine .ite (fun h => ?_) (fun _ => .ok ⟨Nat.le_refl _, h2, h3, Nat.le_refl _⟩)
    refine (Xp hts hat h2).bind fun y j ⟨a, b, c⟩ => ?_
    exact (kL hat n _ j b (fun e he => (List.mem_append.1 he).elim (fun he => h3 e he) (fun he => by simp at he; subst he; exact c)) (by omega)).mono fun e m ⟨a2, b2, c2, d2⟩ => ⟨by omega, b2, c2, by simp at d2; omega⟩
theorem lefts_s (hat : L1 s ts) (n : Nat) {i : Nat} (hi : i < ts.length) (hn : ts.length ≤ n) : Sat (fun r j => i < j ∧ j < ts.length ∧ (∀ e ∈ r, bV s e) ∧ r.length + i ≤ j) (Oo ts n i) := by
  unfold Oo
  refine .ite (fun _ => ?_) (fun _ => ?_)
  · exact (Ys hts hat hi).bind fun x j ⟨a, b, c⟩ => .ok ⟨a, b, (fun e he => by simp at he; subst he; exact c), by simp; omega⟩
  · refine (Gy hts hi (by decide)).bind fun _ j ⟨_, a1, b1, _⟩ => ?_
    refine (Ys hts hat b1).bind fun x j2 ⟨a2, b2, c2⟩ => ?_
    refine (Gy hts b2 (by decide)).bind fun _ j3 ⟨_, a3, b3, _⟩ => ?_
    refine Sat.bind (Q := fun l m => j3 < m ∧ m < ts.length ∧ (∀ e ∈ l, bV s e) ∧ l.length + j3 ≤ m) ?_ (fun l m ⟨a4, b4, c4, d4⟩ => .ok ⟨by omega, b4, fun e he => ?_, by simp; omega⟩)
    · refine (Ys hts hat b3).bind fun y m ⟨a5, b5, c5⟩ => ?_
      exact (Yh hts (fun i h => Ys hts hat h) n [y] m b5 (fun e he => by simp at he; subst he; exact c5) (by omega)).mono fun e m ⟨a2, b2, c2, d2⟩ => ⟨by omega, b2, c2, by simp at d2; omega⟩
    · rcases List.mem_cons.1 he with rfl | he
      · exact c2
      · exact c4 e he
theorem Wr (hat : L1 s ts) (n : Nat) (hn : 16 * ts.length + 16 ≤ n) (hN : n ≤ 1000000) (nt : NT) {i : Nat} (hi : i < ts.length) : Sat (fun e j => i < j ∧ j < ts.length ∧ AllP (fun e => Wide e ∧ Jx s e) e) (Ha (P ts n nt) i) := by
  unfold Ha
  have h := P_s hts hat n nt i hi (by cases nt <;> simp only [G7] <;> omega)
  have h2 : Sat (fun e j => i < j ∧ j < ts.length ∧ AllP (fun e => Wide e ∧ Jx s e) e) (P ts n nt i) := ⟨h.1, fun e j he => ⟨(h.2 e j he).1, (h.2 e j he).2.1, kJ (h.2 e j he).2.2 (V2 n hN nt _ _ _ he)⟩⟩
  refine h2.bind fun e j h => ?_
  exact .ite (fun _ => .bad) (fun _ => .ok h)
theorem eq_s (hat : L1 s ts) (n : Nat) (hn : 16 * ts.length + 16 ≤ n) (hN : n ≤ 1000000) {i : Nat} (hi : i < ts.length) : Sat (fun q j => i < j ∧ j < ts.length ∧ bU s ts.length q) (eqP ts n i) := by
  unfold eqP
  refine (lefts_s hts hat n hi (by omega)).bind fun ls j ⟨a1, b1, c1, d1⟩ => ?_
  refine (Gy hts b1 (by decide)).bind fun _ j2 ⟨_, a2, b2, _⟩ => ?_
  refine .ite (fun h => ?_) (fun _ => ?_)
  · have h5 := F0 hts b2 (ws := [[97, 115, 121, 110, 99]]) (by decide) h
    refine (Wr hts hat n hn hN .call h5).bind fun e m ⟨a3, b3, c3⟩ => ?_
    exact (Gy hts b3 (by decide)).bind fun _ m2 ⟨_, a4, b4, _⟩ => .ok ⟨by omega, b4, c1, c3, by show ls.length ≤ _; omega⟩
  · refine (Wr hts hat n hn hN .expr b2).bind fun e m ⟨a3, b3, c3⟩ => ?_
    exact (Gy hts b3 (by decide)).bind fun _ m2 ⟨_, a4, b4, _⟩ => .ok ⟨by omega, b4, c1, c3, by show ls.length ≤ _; omega⟩
theorem eqs_s (hat : L1 s ts) (N : Nat) (hN : 16 * ts.length + 16 ≤ N) (hN2 : N ≤ 1000000) : ∀ (n : Nat) (l : List PQ) (i : Nat), i < ts.length → (∀ e ∈ l, bU s ts.length e) → ts.length - i < n → Sat (fun r j => i ≤ j ∧ j < ts.length ∧ (∀ e ∈ r, bU s ts.length e) ∧ r.length + i ≤ l.length + j) (Y9 ts N n l i)
  | 0, l, i, h2, h3, h4 => absurd h4 (Nat.not_lt_zero _)
  | n + 1, l, i, h2, h3, h4 => by
    unfold Y9
    refine .ite (fun _ => .ok ⟨Nat.le_refl _, h2, h3, Nat.le_refl _⟩) (fun _ => ?_)
    refine (eq_s hts hat N hN hN2 h2).bind fun y j ⟨a, b, c⟩ => ?_
    exact (eqs_s hat N hN hN2 n _ j b (fun e he => (List.mem_append.1 he).elim (fun he => h3 e he) (fun he => by simp at he; subst he; exact c)) (by omega)).mono fun e m ⟨a2, b2, c2, d2⟩ => ⟨by omega, b2, c2, by simp at d2; omega⟩
theorem varsQ_s (hat : L1 s ts) (n : Nat) {i : Nat} (hi : i < ts.length) (hn : ts.length ≤ n) : Sat (fun r j => i ≤ j ∧ j < ts.length ∧ (∀ e ∈ r, V5 s e) ∧ r.length + i ≤ j) (Zn ts n i) := by
  unfold Zn
  refine .ite (fun h => ?_) (fun _ => .ok ⟨Nat.le_refl _, hi, (fun e he => by cases he), by simp⟩)
  have h5 := F0 hts hi (ws := [[118, 97, 114]]) (by decide) h
  refine (Xp hts hat h5).bind fun x m ⟨a, b, c⟩ => ?_
  exact (kL hts hat n [x] m b (fun e he => by simp at he; subst he; exact c) (by omega)).mono fun e m ⟨a2, b2, c2, d2⟩ => ⟨by omega, b2, c2, by simp at d2; omega⟩
theorem lV (hat : L1 s ts) (n : Nat) (hn : 16 * ts.length + 16 ≤ n) (hN : n ≤ 1000000) {i : Nat} (hi : i < ts.length) : Sat (fun q j => i < j ∧ j < ts.length ∧ V4 s ts.length q) (Om ts n i) := by
  unfold Om
  refine (Gy hts hi (by decide)).bind fun _ j ⟨_, a1, b1, _⟩ => ?_
  refine (Nm hts b1 (by decide)).bind fun t j2 ⟨h2, a2, b2⟩ => ?_
  have hg : stB s t.text t.pos = true := by rw [h2]; exact hat j b1
  refine (fK hts (fun i h => dX hts hat h) n b2 (by omega)).bind fun ins j3 ⟨a3, b3, c3, d3⟩ => ?_
  refine (Gy hts b3 (by decide)).bind fun _ j4 ⟨_, a4, b4, _⟩ => ?_
  refine (fK hts (fun i h => dX hts hat h) n b4 (by omega)).bind fun outs j5 ⟨a5, b5, c5, d5⟩ => ?_
  refine (varsQ_s hts hat n b5 (by omega)).bind fun vars j6 ⟨a6, b6, c6, d6⟩ => ?_
  refine (Gy hts b6 (by decide)).bind fun _ j7 ⟨_, a7, b7, _⟩ => ?_
  refine (eqs_s hts hat n hn hN n [] j7 b7 (fun e he => by cases he) (by omega)).bind fun qs j8 ⟨a8, b8, c8, d8⟩ => ?_
  refine (Gy hts b8 (by decide)).bind fun _ j9 ⟨_, a9, b9, _⟩ => .ok ⟨by omega, b9, hg, fun d hd => ?_, c8, (by show ins.length + outs.length + vars.length ≤ _; omega), (by show qs.length ≤ _; simp at d8; omega)⟩
  rcases List.mem_append.1 hd with hd | hd
  · rcases List.mem_append.1 hd with hd | hd
    · exact c3 d hd
    · exact c5 d hd
  · exact c6 d hd
theorem lJ (hat : L1 s ts) (N : Nat) (hN : 16 * ts.length + 16 ≤ N) (hN2 : N ≤ 1000000) : ∀ (n : Nat) (l : List PN) (i : Nat), i < ts.length → (∀ e ∈ l, V4 s ts.length e) → ts.length - i < n → Sat (fun r j => i ≤ j ∧ j < ts.length ∧ (∀ e ∈ r, V4 s ts.length e) ∧ r.length + i ≤ l.length + j) (Qm ts N n l i)
  | 0, l, i, h2, h3, h4 => absurd h4 (Nat.not_lt_zero _)
  | n + 1, l, i, h2, h3, h4 => by
    unfold Qm
    refine .ite (fun _ => ?_) (fun _ => .ok ⟨Nat.le_refl _, h2, h3, Nat.le_refl _⟩)
    refine (lV hts hat N hN hN2 h2).bind fun y j ⟨a, b, c⟩ => ?_
    exact (lJ hat N hN hN2 n _ j b (fun e he => (List.mem_append.1 he).elim (fun he => h3 e he) (fun he => by simp at he; subst he; exact c)) (by omega)).mono fun e m ⟨a2, b2, c2, d2⟩ => ⟨by omega, b2, c2, by simp at d2; omega⟩
theorem iH (hat : L1 s ts) (n : Nat) (hn : 16 * ts.length + 16 ≤ n) (hN : n ≤ 1000000) (h0 : 0 < ts.length) : Sat (fun l j => j < ts.length ∧ (∀ e ∈ l, V4 s ts.length e) ∧ l.length ≤ ts.length) (Hk ts n 0) := by
  unfold Hk
  refine (lV hts hat n hn hN h0).bind fun x j ⟨a, b, c⟩ => ?_
  exact (lJ hts hat n hn hN n [x] j b (fun e he => by simp at he; subst he; exact c) (by omega)).mono fun e m ⟨a2, b2, c2, d2⟩ => ⟨b2, c2, by simp at d2; omega⟩
end
end Go.Ax
