/-
  Operations, one by one: slices of slices, lengths, appends, nil, interfaces, functions, maps.
-/
import Derived.Test.YtjgknelmjdallaaGreatDoorFcH
noncomputable section
namespace Go.Ax
open Go.RowKit
set_option linter.unusedVariables false
set_option linter.unusedSimpArgs false
variable {P : Program} {base : Nat} {w0 : World}

/-- A bound of a slice: what was given, or what stands for it. -/
def boundA : Option AV → Nat → Option Nat
  | none, n => some n
  | some (.v (.int _ i)), _ => if 0 ≤ i then some i.toNat else none
  | _, _ => none
def oSlice (P : Program) (t : TypeId) (a : AV) (lo hi : Option AV) : Option AV :=
  match elemT P t with
  | some (none, e) => match a, sizeT P e with
    | .sl tok off sz es, some n => match boundA lo 0, boundA hi es.length with
      | some l, some h => if n == sz && decide (l ≤ h) && decide (h ≤ es.length) then
          if l == h then some (.sl 0 0 sz [])
          else if h == es.length then some (.sl tok (off + l * sz) sz (es.drop l))
          else some (.sl 0 0 sz ((es.drop l).take (h - l)))
        else none
      | _, _ => none
    | .nils, some _ => match boundA lo 0, boundA hi 0 with
      | some 0, some 0 => some .nils
      | _, _ => none
    | _, _ => none
  | _ => none
/-- A row's beginning, without room behind it. -/
def oSlice3 (P : Program) (t : TypeId) (a hi mx : AV) : Option AV :=
  match elemT P t with
  | some (none, e) => match a, sizeT P e with
    | .sl _ _ sz es, some n => match boundA (some hi) 0, boundA (some mx) 0 with
      | some h, some m => if n == sz && h == m && decide (h ≤ es.length) then some (.sl 1 0 sz (es.take h)) else none
      | _, _ => none
    | .nils, some _ => match boundA (some hi) 0, boundA (some mx) 0 with
      | some 0, some 0 => some .nils
      | _, _ => none
    | _, _ => none
  | _ => none
theorem bound_at {γ : Gh} {w : World} {a : AV} {v : Value} {n : Nat} (h : boundA (some a) 0 = some n) (hv : VR γ w a v) : ∃ k, v = .int k (n : Int) := by
  unfold boundA at h
  split at h
  · cases ‹some a = none›
  · rename_i heq; injection heq with heq; subst heq
    cases hv
    split at h
    · injection h with h
      exact ⟨_, by congr 1; omega⟩
    · cases h
  · cases h
/-- The bounds, in the model. -/
theorem bounds_run {γ : Gh} {w : World} {lo hi : Option AV} {vlo vhi : Option Value} (hlo : ∀ a, lo = some a → ∃ v, vlo = some v ∧ VR γ w a v) (hlo0 : lo = none → vlo = none) (hhi : ∀ a, hi = some a → ∃ v, vhi = some v ∧ VR γ w a v) (hhi0 : hi = none → vhi = none)
    {isS : Bool} {len cap l h : Nat} (h1 : boundA lo 0 = some l) (h2 : boundA hi len = some h) (hlh : l ≤ h) (hhl : h ≤ len) (hc : len ≤ cap) : (Instr.sliceBounds isS len cap vlo vhi none).run P w = .ok (l, h, cap) w := by
  have H : (vhi = none ∧ h = len) ∨ ∃ k, vhi = some (.int k (h : Int)) := by
    cases hi with
    | none => injection h2 with h2; exact .inl ⟨hhi0 rfl, h2.symm⟩
    | some a =>
      obtain ⟨v, hv, hr⟩ := hhi a rfl
      unfold boundA at h2
      split at h2
      · cases ‹some a = none›
      · rename_i heq; injection heq with heq; subst heq
        cases hr
        split at h2
        · injection h2 with h2
          exact .inr ⟨_, by rw [hv]; congr 2; omega⟩
        · cases h2
      · cases h2
  have L : (vlo = none ∧ l = 0) ∨ ∃ k, vlo = some (.int k (l : Int)) := by
    cases lo with
    | none => injection h1 with h1; exact .inl ⟨hlo0 rfl, h1.symm⟩
    | some a =>
      obtain ⟨v, hv, hr⟩ := hlo a rfl
      unfold boundA at h1
      split at h1
      · cases ‹some a = none›
      · rename_i heq; injection heq with heq; subst heq
        cases hr
        split at h1
        · injection h1 with h1
          exact .inr ⟨_, by rw [hv]; congr 2; omega⟩
        · cases h1
      · cases h1
  have hb : (0 : Int) ≤ (h : Int) ∧ (h : Int) ≤ (cap : Int) := by omega
  have lb : (0 : Int) ≤ (l : Int) ∧ (l : Int) ≤ (h : Int) := by omega
  rcases H with ⟨rfl, rfl⟩ | ⟨k, rfl⟩ <;> rcases L with ⟨rfl, rfl⟩ | ⟨k', rfl⟩ <;> simp [Instr.sliceBounds, Instr.sliceBound, asIntOf, hb, lb, hlh] <;> omega
theorem flat_drop {sz : Nat} : ∀ {es : List AV} (h : ∀ e ∈ es, e.cells.length = sz) (l : Nat), flat (es.drop l) = (flat es).drop (l * sz)
  | [], _, l => by simp [flat]
  | e :: r, h, 0 => by simp
  | e :: r, h, l + 1 => by
    have he := h e (List.mem_cons_self ..)
    rw [List.drop_succ_cons, flat_drop (es := r) (fun y hy => h y (List.mem_cons_of_mem _ hy)) l, flat_cons, Nat.succ_mul, show l * sz + sz = e.cells.length + l * sz by omega, List.drop_length_add_append]
theorem flat_take {sz : Nat} : ∀ {es : List AV} (h : ∀ e ∈ es, e.cells.length = sz) (l : Nat), flat (es.take l) = (flat es).take (l * sz)
  | [], _, l => by simp [flat]
  | e :: r, h, 0 => by simp [flat]
  | e :: r, h, l + 1 => by
    have he := h e (List.mem_cons_self ..)
    rw [List.take_succ_cons, flat_cons, flat_take (es := r) (fun y hy => h y (List.mem_cons_of_mem _ hy)) l, flat_cons, Nat.succ_mul, show l * sz + sz = e.cells.length + l * sz by omega, List.take_length_add_append]
theorem oSlice3_sound {γ : Gh} {S : St} {w : World} (hS : SR base w0 γ S w) {t : TypeId} {a hi mx : AV} {v vh vm : Value} (hv : VR γ w a v) (hh : VR γ w hi vh) (hm : VR γ w mx vm) {r : AV} (ho : oSlice3 P t a hi mx = some r) : OkV P base w0 γ S w (Instr.sliceAt t v none (some vh) (some vm)) r S := by
  unfold oSlice3 at ho
  split at ho
  · rename_i e he
    have hu := elemT_slice he
    split at ho
    · rename_i tok off sz es n hn
      split at ho
      · rename_i h m h1 h2
        obtain ⟨k1, rfl⟩ := bound_at h1 hh
        obtain ⟨k2, rfl⟩ := bound_at h2 hm
        split at ho
        · rename_i hc
          simp only [Bool.and_eq_true, beq_iff_eq, decide_eq_true_eq] at hc
          obtain ⟨⟨hns, hhm⟩, hhl⟩ := hc
          subst hns; subst hhm
          injection ho with ho; subst ho
          cases hv with
          | sl _ _ _ _ b o cap c hs hes hone hcl hr ht hf hcp hblk =>
          have hcap : (0 : Int) ≤ (h : Int) ∧ (h : Int) ≤ (cap : Int) := by omega
          have hself : (0 : Int) ≤ (h : Int) ∧ (h : Int) ≤ (h : Int) := by omega
          have hrun : (Instr.sliceAt t (.slice (some ⟨b, o, none⟩) es.length cap) none (some (.int k1 (h : Int))) (some (.int k2 (h : Int)))).run P w = .ok (.slice (some ⟨b, o, none⟩) h h) w := by
            simp [Instr.sliceAt, Instr.slice, run_underlying hu, Instr.sliceBounds, Instr.sliceBound, asIntOf, hcap, sizeT_run hn, Addr.add_mid]
            intro hlt; omega
          refine OkV.pure hS hrun ?_
          obtain ⟨arr, T, fr, harr, hle⟩ := hblk
          have hd := flat_take hes h
          have hlen : (es.take h).length = h := by simp; omega
          have hfl : (flat es).length = es.length * n := flat_length hes
          have hmul : h * n ≤ es.length * n := Nat.mul_le_mul_right _ hhl
          have hmul2 : es.length * n ≤ cap * n := Nat.mul_le_mul_right _ hcp
          have hq := VR.sl (γ := γ) (w := w) 1 0 n (es.take h) b o h c hs (fun e he => hes e (List.mem_of_mem_take he)) (fun x hx => hone x (by rw [hd] at hx; exact List.mem_of_mem_take hx)) (fun k hk => by
              rw [hd] at hk; simp at hk
              exact hcl k (by omega)) (fun k hk => by
              have hk2 := hk
              rw [hd] at hk2; simp at hk2
              have := hr k (by omega)
              have e : (flat (es.take h))[k] = (flat es)[k]'(by omega) := by simp only [hd]; rw [List.getElem_take]
              rw [e]; exact this) (fun h2 => by omega) (fun _ => hlen.symm) (by rw [hlen]; exact Nat.le_refl _) ⟨arr, T, fr, harr, by omega⟩
          rwa [hlen] at hq
        · cases ho
      · cases ho
    · rename_i n hn
      split at ho
      · rename_i h1 h2
        obtain ⟨k1, rfl⟩ := bound_at h1 hh
        obtain ⟨k2, rfl⟩ := bound_at h2 hm
        injection ho with ho; subst ho
        cases hv
        refine OkV.pure hS (v := .slice none 0 0) ?_ .nils
        simp [Instr.sliceAt, Instr.slice, run_underlying hu, Instr.sliceBounds, Instr.sliceBound, asIntOf, sizeT_run hn]
      · cases ho
    · cases ho
  · cases ho
theorem oSlice_sound {γ : Gh} {S : St} {w : World} (hS : SR base w0 γ S w) {t : TypeId} {a : AV} {v : Value} (hv : VR γ w a v) {lo hi : Option AV} {vlo vhi : Option Value} (hlo : ∀ a, lo = some a → ∃ v, vlo = some v ∧ VR γ w a v) (hlo0 : lo = none → vlo = none)
    (hhi : ∀ a, hi = some a → ∃ v, vhi = some v ∧ VR γ w a v) (hhi0 : hi = none → vhi = none) {r : AV} (ho : oSlice P t a lo hi = some r) : OkV P base w0 γ S w (Instr.sliceAt t v vlo vhi none) r S := by
  unfold oSlice at ho
  split at ho
  · rename_i e he
    have hu := elemT_slice he
    split at ho
    · rename_i tok off sz es n hn
      split at ho
      · rename_i l h h1 h2
        split at ho
        · rename_i hc
          simp only [Bool.and_eq_true, beq_iff_eq, decide_eq_true_eq] at hc
          obtain ⟨⟨hns, hlh⟩, hhl⟩ := hc
          subst hns
          cases hv with
          | sl _ _ _ _ b o cap c hs hes hone hcl hr ht hf hcp hblk =>
          have hb := bounds_run (P := P) (isS := true) hlo hlo0 hhi hhi0 h1 h2 hlh hhl hcp
          have hrun : (Instr.sliceAt t (.slice (some ⟨b, o, none⟩) es.length cap) vlo vhi none).run P w = .ok (.slice (if cap = l then some ⟨b, o, none⟩ else some ⟨b, o + l * n, none⟩) (h - l) (cap - l)) w := by
            simp [Instr.sliceAt, Instr.slice, run_underlying hu, hb, sizeT_run hn, Addr.add_mid]
          obtain ⟨arr, T, fr, harr, hle⟩ := hblk
          split at ho
          · rename_i heq
            have heq : l = h := by simpa using heq
            subst heq
            injection ho with ho; subst ho
            by_cases hcl2 : cap = l
            · rw [if_pos hcl2] at hrun
              refine OkV.pure hS hrun ?_
              have hq := VR.sl (γ := γ) (w := w) 0 0 n [] b o (cap - l) (fun _ => undef) hs (fun _ h => by cases h) (fun _ h => by simp [flat] at h) (fun k hk => by simp [flat] at hk) (fun k hk => by simp [flat] at hk) (fun h => by omega) (fun h => by omega) (Nat.zero_le _)
                ⟨arr, T, fr, harr, by rw [hcl2, Nat.sub_self, Nat.zero_mul]; omega⟩
              simpa using hq
            · rw [if_neg hcl2] at hrun
              refine OkV.pure hS hrun ?_
              have hmul : l * n + (cap - l) * n = cap * n := by rw [← Nat.add_mul]; congr 1; omega
              have hq := VR.sl (γ := γ) (w := w) 0 0 n [] b (o + l * n) (cap - l) (fun _ => undef) hs (fun _ h => by cases h) (fun _ h => by simp [flat] at h) (fun k hk => by simp [flat] at hk) (fun k hk => by simp [flat] at hk) (fun h => by omega) (fun h => by omega) (Nat.zero_le _)
                ⟨arr, T, fr, harr, by omega⟩
              simpa using hq
          · rename_i hne
            have hne : l ≠ h := by simpa using hne
            have hcl2 : ¬ cap = l := by omega
            rw [if_neg hcl2] at hrun
            have hmul : l * n + (cap - l) * n = cap * n := by rw [← Nat.add_mul]; congr 1; omega
            have hfl : (flat es).length = es.length * n := flat_length hes
            have hd := flat_drop hes l
            have hlmul : l * n ≤ es.length * n := Nat.mul_le_mul_right _ (by omega)
            split at ho
            · rename_i hh
              have hh : h = es.length := by simpa using hh
              injection ho with ho; subst ho
              refine OkV.pure hS hrun ?_
              have hlen : (es.drop l).length = h - l := by simp; omega
              rw [← hlen]
              refine .sl tok (off + l * n) n (es.drop l) b (o + l * n) (cap - l) (fun k => c (l * n + k)) hs (fun e he => hes e (List.mem_of_mem_drop he)) (fun x hx => hone x (by rw [hd] at hx; exact List.mem_of_mem_drop hx)) (fun k hk => ?_) (fun k hk => ?_) (fun h2 => ?_) (fun h1 => ?_) (by rw [hlen]; omega) ⟨arr, T, fr, harr, by omega⟩
              · rw [hd] at hk; simp at hk
                have := hcl (l * n + k) (by omega)
                rwa [← Nat.add_assoc] at this
              · have hk2 := hk
                rw [hd] at hk2; simp at hk2
                have := hr (l * n + k) (by omega)
                have e : (flat (es.drop l))[k] = (flat es)[l * n + k]'(by omega) := by simp only [hd]; rw [List.getElem_drop]
                rw [e]; exact this
              · obtain ⟨s, hs1, hs2⟩ := ht h2
                exact ⟨s, hs1, by omega⟩
              · have := hf h1; omega
            · rename_i hh
              have hh : h ≠ es.length := by simpa using hh
              injection ho with ho; subst ho
              refine OkV.pure hS hrun ?_
              have hlen : ((es.drop l).take (h - l)).length = h - l := by simp; omega
              have hes2 : ∀ e ∈ es.drop l, e.cells.length = n := fun e he => hes e (List.mem_of_mem_drop he)
              have hd2 := flat_take hes2 (h - l)
              rw [hd] at hd2
              have hmul2 : (h - l) * n + l * n = h * n := by rw [← Nat.add_mul]; congr 1; omega
              have hmul3 : h * n ≤ es.length * n := Nat.mul_le_mul_right _ hhl
              have hq := VR.sl (γ := γ) (w := w) 0 0 n ((es.drop l).take (h - l)) b (o + l * n) (cap - l) (fun k => c (l * n + k)) hs (fun e he => hes2 e (List.mem_of_mem_take he)) (fun x hx => hone x (by rw [hd2] at hx; exact List.mem_of_mem_drop (List.mem_of_mem_take hx))) (fun k hk => by
                  rw [hd2] at hk; simp at hk
                  have := hcl (l * n + k) (by omega)
                  rwa [← Nat.add_assoc] at this) (fun k hk => by
                  have hk2 := hk
                  rw [hd2] at hk2; simp at hk2
                  have := hr (l * n + k) (by omega)
                  have e : (flat ((es.drop l).take (h - l)))[k] = (flat es)[l * n + k]'(by omega) := by simp only [hd2]; rw [List.getElem_take, List.getElem_drop]
                  rw [e]; exact this) (fun h2 => by omega) (fun h1 => by omega) (by rw [hlen]; omega) ⟨arr, T, fr, harr, by omega⟩
              rwa [hlen] at hq
        · cases ho
      · cases ho
    · rename_i n hn
      split at ho
      · rename_i h1 h2
        injection ho with ho; subst ho
        cases hv
        have hb := bounds_run (P := P) (isS := true) (len := 0) (cap := 0) hlo hlo0 hhi hhi0 h1 h2 (Nat.le_refl _) (Nat.le_refl _) (Nat.le_refl _)
        refine OkV.pure hS (v := .slice none 0 0) ?_ .nils
        simp [Instr.sliceAt, Instr.slice, run_underlying hu, hb, sizeT_run hn]
      · cases ho
    · cases ho
  · cases ho
def oExtract (a : AV) (i : Nat) : Option AV := match a with
  | .tup vs => vs[i]?
  | _ => none
theorem oExtract_sound {γ : Gh} {S : St} {w : World} (hS : SR base w0 γ S w) {a : AV} {v : Value} (hv : VR γ w a v) {i : Nat} {r : AV} (ho : oExtract a i = some r) : OkV P base w0 γ S w (Instr.extract v i) r S := by
  unfold oExtract at ho
  split at ho
  · cases hv with
    | tup vs x hx hk =>
    obtain ⟨y, hy, hr⟩ := VRL.get (γ := γ) (w := w) ⟨hx, hk⟩ ho
    exact OkV.pure hS (by simp [Instr.extract, hy]) hr
  · cases ho
def oMakeI (P : Program) (t : TypeId) (a : AV) : Option AV := match P.underlying t with
  | some (.interface _) => none
  | some _ => some (.iface t a)
  | none => none
theorem oMakeI_sound {γ : Gh} {S : St} {w : World} (hS : SR base w0 γ S w) {a : AV} {v : Value} (hv : VR γ w a v) {t : TypeId} {r : AV} (ho : oMakeI P t a = some r) : OkV P base w0 γ S w (Instr.makeInterface t v) r S := by
  unfold oMakeI at ho
  split at ho
  · cases ho
  · rename_i d hd hu
    injection ho with ho; subst ho
    refine OkV.pure hS (v := .iface t v) ?_ (.iface t a v hv)
    simp only [Instr.makeInterface, Sem.run_bind, run_underlying hu, Result.andThen_ok]
    try (split; · rename_i ms; exact absurd rfl (hd ms))
    all_goals rfl
  · cases ho
/-- Two values of which one is nil, and the other one is not. -/
def neNil (P : Program) (t : TypeId) (a b : AV) : Bool :=
  match P.underlying t, a, b with
  | some (.slice _), .sl _ _ _ _, .nils => true
  | some (.slice _), .nils, .sl _ _ _ _ => true
  | some (.slice _), .bs _ _ _ _, .nils => true
  | some (.slice _), .nils, .bs _ _ _ _ => true
  | some (.pointer _), .ptr _ _, .nilp => true
  | some (.pointer _), .nilp, .ptr _ _ => true
  | some (.pointer _), .ep _, .nilp => true
  | some (.pointer _), .nilp, .ep _ => true
  | some (.map _ _), .map _, .nilm => true
  | some (.map _ _), .nilm, .map _ => true
  | some (.func _ _ _), .fn _ _ _, .v .nilFunc => true
  | some (.func _ _ _), .v .nilFunc, .fn _ _ _ => true
  | some (.interface _), .iface _ _, .v .nilIface => true
  | some (.interface _), .v .nilIface, .iface _ _ => true
  | _, _, _ => false
theorem neNil_sound {γ : Gh} {w : World} {t : TypeId} {a b : AV} {v u : Value} (hv : VR γ w a v) (hu : VR γ w b u) (h : neNil P t a b = true) (x y : Operand) (op : BinOp) (hop : op = .eql ∨ op = .neq) :
    (do eqGuard op t x y v u; binOp op t v u : Sem Value).run P w = .ok (.bool (op == .neq)) w := by
  have e : ∃ r, (Op.equal t v u).run P w = .ok r w ∧ r = false := by
    refine ⟨false, ?_, rfl⟩
    suffices H : ∀ d, (Op.equalIn (d + 1) t v u).run P w = .ok false w from H 9999
    intro d
    unfold neNil at h
    split at h <;> first | (rename_i hd; cases hv; cases hu; simp [Op.equalIn, run_underlying hd]; done) | (cases h; done) | skip
    all_goals (rename_i hd; cases hv <;> cases hu <;> simp [Op.equalIn, run_underlying hd])
  obtain ⟨r, hr, rfl⟩ := e
  unfold neNil at h
  rcases hop with rfl | rfl <;> (split at h <;> first | (cases hv; cases hu; simp [eqGuard, binOp, hr]; done) | (cases h; done))
end Go.Ax
