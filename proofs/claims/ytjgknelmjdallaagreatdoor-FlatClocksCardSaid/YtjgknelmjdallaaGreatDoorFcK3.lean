/-
  Signs on numbers and texts, without a detour.
-/
import Derived.Test.YtjgknelmjdallaaGreatDoorFcK2
import Derived.Laws.StructEq
import Derived.Laws.Strings
noncomputable section
namespace Go.Ax
open Go.RowKit
set_option linter.unusedVariables false
set_option linter.unusedSimpArgs false
variable {P : Program}
def eqBytes : List UInt8 → List UInt8 → Bool := List.rec (fun m => List.rec true (fun _ _ _ => false) m) (fun a _ ih m => List.rec false (fun b r _ => Bool.rec false (ih r) (Nat.beq a.toNat b.toNat)) m)
theorem eqBytes_eq : ∀ (l m : List UInt8), eqBytes l m = (l == m)
  | [], [] => rfl
  | [], _ :: _ => rfl
  | _ :: _, [] => rfl
  | a :: l, b :: m => by
    have ih := eqBytes_eq l m
    show Bool.rec false (eqBytes l m) (Nat.beq a.toNat b.toNat) = (a :: l == b :: m)
    rw [ih]
    have h : Nat.beq a.toNat b.toNat = (a == b) := by
      rw [Bool.eq_iff_iff, Nat.beq_eq, beq_iff_eq]
      exact ⟨fun h => UInt8.toNat_inj.1 h, fun h => by rw [h]⟩
    rw [h]
    show _ = (a == b && l == m)
    cases a == b <;> rfl
def fastBin (op : BinOp) (a b : AV) : Option AV :=
  match a, b with
  | .v (.int k x), .v (.int k' y) => if k = k' then (match op with
      | .add => some (.v (.int k (k.wrap (x + y))))
      | .sub => some (.v (.int k (k.wrap (x - y))))
      | .mul => some (.v (.int k (k.wrap (x * y))))
      | .eql => some (.v (.bool (x == y)))
      | .neq => some (.v (.bool (x != y)))
      | .lss => some (.v (.bool (x < y)))
      | .leq => some (.v (.bool (x ≤ y)))
      | .gtr => some (.v (.bool (x > y)))
      | .geq => some (.v (.bool (x ≥ y)))
      | _ => none) else none
  | .v (.string s), .v (.string u) => (match op with
      | .eql => some (.v (.bool (eqBytes s.data.toList u.data.toList)))
      | .neq => some (.v (.bool (!eqBytes s.data.toList u.data.toList)))
      | _ => none)
  | _, _ => none
theorem fastBin_sound {γ : Gh} {w : World} {op : BinOp} {a b r : AV} {v u : Value} (hv : VR γ w a v) (hu : VR γ w b u) (h : fastBin op a b = some r) (t : TypeId) (x y : Operand) : ∃ z, (do eqGuard op t x y v u; binOp op t v u : Sem Value).run P w = .ok z w ∧ VR γ w r z := by
  unfold fastBin at h
  split at h
  · rename_i k i k' j
    cases hv; cases hu
    split at h
    · rename_i hk
      subst hk
      cases op <;> simp only at h <;> first | (cases h; done) | (injection h with h; subst h; exact ⟨_, by simp [eqGuard, binOp, Op.intArith, Op.intCmp], .v _ rfl⟩)
    · cases h
  · rename_i s s'
    cases hv; cases hu
    cases op <;> simp only at h <;> first | (cases h; done) | (injection h with h; subst h; exact ⟨_, by simp [eqGuard, binOp, Op.stringOp]; rfl, by rw [eqBytes_eq, ← ByteArray.toList_eq, ← ByteArray.toList_eq]; exact .v _ rfl⟩)
  · cases h
/-- A part of a text. -/
def fastSlice (P : Program) (t : TypeId) (a : AV) (lo hi : Option AV) : Option AV :=
  match a with
  | .v (.string s) => match P.underlying t with
    | some .string => match boundA lo 0, boundA hi s.size with
      | some l, some h => Bool.rec (motive := fun _ => Option AV) none (Bool.rec (motive := fun _ => Option AV) none (some (.v (.string ⟨⟨(s.data.toList.drop l).take (Nat.sub h l)⟩⟩))) (Nat.ble h s.size)) (Nat.ble l h)
      | _, _ => none
    | _ => none
  | _ => none
theorem extract_cut (s : ByteArray) (l h : Nat) : s.extract l h = ⟨⟨(s.data.toList.drop l).take (h - l)⟩⟩ := by
  apply ByteArray.ext
  apply Array.toList_inj.1
  simp [ByteArray.data_extract, Array.toList_extract]
theorem fastSlice_sound {base : Nat} {w0 : World} {γ : Gh} {S : St} {w : World} (hS : SR base w0 γ S w) {t : TypeId} {a : AV} {v : Value} (hv : VR γ w a v) {lo hi : Option AV} {vlo vhi : Option Value} (hlo : ∀ a, lo = some a → ∃ v, vlo = some v ∧ VR γ w a v) (hlo0 : lo = none → vlo = none)
    (hhi : ∀ a, hi = some a → ∃ v, vhi = some v ∧ VR γ w a v) (hhi0 : hi = none → vhi = none) {r : AV} (ho : fastSlice P t a lo hi = some r) : OkV P base w0 γ S w (Instr.sliceAt t v vlo vhi none) r S := by
  unfold fastSlice at ho
  split at ho
  · rename_i s
    cases hv
    split at ho
    · rename_i hu
      split at ho
      · rename_i l h h1 h2
        cases hlh : Nat.ble l h with
        | false => rw [hlh] at ho; cases ho
        | true =>
          cases hhs : Nat.ble h s.size with
          | false => rw [hlh, hhs] at ho; cases ho
          | true =>
            rw [hlh, hhs] at ho
            injection ho with ho; subst ho
            have hb := bounds_run (P := P) (isS := false) hlo hlo0 hhi hhi0 h1 h2 (Nat.le_of_ble_eq_true hlh) (Nat.le_of_ble_eq_true hhs) (Nat.le_refl _)
            refine OkV.pure hS (v := .string (s.extract l h)) ?_ (by rw [extract_cut]; exact .v _ rfl)
            simp [Instr.sliceAt, Instr.slice, run_underlying hu, hb]
      · cases ho
    · cases ho
  · cases ho
/-- A byte of a text. -/
def fastIndex (P : Program) (t : TypeId) (a i : AV) : Option AV :=
  match a, i with
  | .v (.string s), .v (.int _ n) => match P.underlying t with
    | some .string => if 0 ≤ n then match s.data.toList[n.toNat]? with
        | some b => some (.v (.int .u8 b.toNat))
        | none => none
      else none
    | _ => none
  | .agg cs, .v (.int _ n) => match elemT P t with
    | some (some len, e) => match sizeT P e with
      | some sz => if 0 ≤ n ∧ n < len then oPart P e cs (n.toNat * sz) else none
      | none => none
    | _ => none
  | _, _ => none
theorem fastIndex_sound {γ : Gh} {w : World} {t : TypeId} {a i r : AV} {v u : Value} (hv : VR γ w a v) (hu : VR γ w i u) (h : fastIndex P t a i = some r) : ∃ z, (Instr.index t v u).run P w = .ok z w ∧ VR γ w r z := by
  unfold fastIndex at h
  split at h
  · rename_i s k n
    cases hv; cases hu
    split at h
    · rename_i ht
      split at h
      · rename_i hn
        split at h
        · rename_i b hb
          injection h with h; subst h
          have hb2 : s[n.toNat]? = some b := by
            have h1 : s.data[n.toNat]? = some b := by simpa using hb
            obtain ⟨hlt, he⟩ := Array.getElem?_eq_some_iff.1 h1
            have : n.toNat < s.size := hlt
            rw [getElem?_pos s n.toNat this]
            exact congrArg some he
          exact ⟨.int .u8 b.toNat, by simp [Instr.index, asIntOf, run_underlying ht, hn, hb2], .v _ rfl⟩
        · cases h
      · cases h
    · cases h
  · rename_i cs k n
    cases hu
    split at h
    · rename_i len e he
      split at h
      · rename_i sz hs
        split at h
        · rename_i hn
          cases hv with
          | agg _ x hx h1 hr =>
            obtain ⟨z, hz, hzv⟩ := oPart_sound (P := P) ⟨hx, hr⟩ h1 h
            exact ⟨z, by simp [Instr.index, asIntOf, run_underlying (elemT_array he), hn, sizeT_run hs, hz], hzv⟩
        · cases h
      · cases h
    · cases h
  · cases h
/-- Structs of truths, numbers, texts: are they equal? -/
def eqCell (P : Program) (t : TypeId) (a b : AV) : Option Bool := match P.underlying t, a, b with
  | some .bool, .v (.bool x), .v (.bool y) => some (x == y)
  | some (.int _), .v (.int k x), .v (.int k' y) => if k = k' then some (x == y) else none
  | some .string, .v (.string s), .v (.string u) => some (eqBytes s.data.toList u.data.toList)
  | _, _, _ => none
def eqFlds (P : Program) (cs ds : List AV) : List Field → Option Bool
  | [] => some true
  | f :: r => if f.name ≠ "_" then (match isAggT P f.type, cs[f.offset]?, ds[f.offset]? with
      | some false, some a, some b => (match eqCell P f.type a b with
        | some true => eqFlds P cs ds r
        | some false => some false
        | none => none)
      | _, _, _ => none) else none
def fastEq (P : Program) (op : BinOp) (t : TypeId) (a b : AV) : Option AV := match a, b with
  | .agg cs, .agg ds => match fieldsOf P t with
    | some fs => if P.stoodInHeld t = false ∧ P.eqGuardType P.depth t = false then (match eqFlds P cs ds fs.toList with
        | some r => (match op with
          | .eql => some (.v (.bool r))
          | .neq => some (.v (.bool (!r)))
          | _ => none)
        | none => none) else none
    | none => none
  | _, _ => none
theorem eqCell_sound {P : Program} {γ : Gh} {w : World} {t : TypeId} {a b : AV} {v u : Value} {r : Bool} (hv : VR γ w a v) (hu : VR γ w b u) (h : eqCell P t a b = some r) (d : Nat) : (Op.equalIn (d + 1) t v u).run P w = .ok r w := by
  unfold eqCell at h
  split at h
  · rename_i x y ht
    injection h with h; subst h
    cases hv; cases hu
    exact run_equalIn_bool' w d t x y ht
  · rename_i k0 k x k' y ht
    split at h
    · rename_i hk
      subst hk
      injection h with h; subst h
      cases hv; cases hu
      exact run_equalIn_int w d t k _ x y ht
    · cases h
  · rename_i s u ht
    injection h with h; subst h
    cases hv; cases hu
    rw [run_equalIn_string w d t s u ht, ByteArray.toList_eq, ByteArray.toList_eq, eqBytes_eq]
  · cases h
theorem eqFlds_sound {P : Program} {γ : Gh} {w : World} {cs ds : List AV} {xs ys : Array Value} (hc : VRL γ w cs xs.toList) (hd : VRL γ w ds ys.toList) (d : Nat) : ∀ {fs : List Field} {r : Bool}, eqFlds P cs ds fs = some r → (Op.eqFields (d + 1) xs ys fs).run P w = .ok r w
  | [], r, h => by injection h with h; subst h; simp [Op.eqFields]
  | f :: fs, r, h => by
    unfold eqFlds at h
    split at h
    · rename_i hn
      split at h
      · rename_i a b ht ha hb
        obtain ⟨x, hx, hxv⟩ := hc.get ha
        obtain ⟨y, hy, hyv⟩ := hd.get hb
        have hx2 : xs[f.offset]? = some x := by simpa using hx
        have hy2 : ys[f.offset]? = some y := by simpa using hy
        have px : (part f.type xs f.offset).run P w = .ok x w := by simp [part, isAggT_run ht, hx2]
        have py : (part f.type ys f.offset).run P w = .ok y w := by simp [part, isAggT_run ht, hy2]
        split at h
        · rename_i he
          have := eqFlds_sound hc hd d (fs := fs) h
          simp only [Op.eqFields, Sem.run_ite, Sem.run_bind, px, py, Result.andThen_ok, eqCell_sound hxv hyv he d]
          rw [if_pos hn]
          simpa using this
        · rename_i he
          injection h with h; subst h
          simp only [Op.eqFields, Sem.run_ite, Sem.run_bind, px, py, Result.andThen_ok, eqCell_sound hxv hyv he d]
          rw [if_pos hn]
          simp
        · cases h
      · cases h
    · cases h
theorem fastEq_sound {P : Program} {γ : Gh} {w : World} {op : BinOp} {t : TypeId} {a b r : AV} {v u : Value} (hv : VR γ w a v) (hu : VR γ w b u) (h : fastEq P op t a b = some r) (x y : Operand) : ∃ z, (do eqGuard op t x y v u; binOp op t v u : Sem Value).run P w = .ok z w ∧ VR γ w r z := by
  unfold fastEq at h
  split at h
  · rename_i cs ds
    cases hv with
    | agg _ xs hx h1 hxr =>
    cases hu with
    | agg _ ys hy h2 hyr =>
    split at h
    · rename_i fs hfs
      split at h
      · rename_i hst
        obtain ⟨hs1, hs2⟩ := hst
        split at h
        · rename_i q hq
          have hu2 : P.underlying t = some (.struct fs) := by
            unfold fieldsOf at hfs
            split at hfs
            · rename_i fs' hu'; injection hfs with hfs; subst hfs; exact hu'
            · cases hfs
          have hf2 : P.fieldsOf t = fs := by unfold Program.fieldsOf; rw [hu2]
          have heq : (Op.equalIn 10000 t (.agg xs.toArray) (.agg ys.toArray)).run P w = .ok q w := by
            rw [run_equalIn_struct w 9999 t xs.toArray ys.toArray (by rw [hf2]; exact hu2) hs1, hf2]
            exact eqFlds_sound (xs := xs.toArray) (ys := ys.toArray) ⟨by simpa using hx, by simpa using hxr⟩ ⟨by simpa using hy, by simpa using hyr⟩ 9998 hq
          split at h
          · injection h with h; subst h
            exact ⟨.bool q, by simp only [Sem.run_bind, run_eqGuard_agg w _ t x y _ _ hs2, Result.andThen_ok, run_eql_struct, heq], .v _ rfl⟩
          · injection h with h; subst h
            exact ⟨.bool (!q), by simp only [Sem.run_bind, run_eqGuard_agg w _ t x y _ _ hs2, Result.andThen_ok, run_neq_struct, heq], .v _ rfl⟩
          · cases h
        · cases h
      · cases h
    · cases h
  · cases h
end Go.Ax
