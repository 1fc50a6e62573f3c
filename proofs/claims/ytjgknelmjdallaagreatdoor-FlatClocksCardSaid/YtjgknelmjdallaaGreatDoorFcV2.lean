/-
  This program's surroundings: its functions; slices.Grow by its contract; the rows that are stored into.
-/
import Derived.Test.YtjgknelmjdallaaGreatDoorAxShelf
import Derived.Test.YtjgknelmjdallaaGreatDoorFcXe
import Derived.Lib.AtoiErrMem
import Derived.Test.YtjgknelmjdallaaGreatDoorFcGr
import Derived.KernelRfl
import Derived.Lib.ParseIntB
noncomputable section
namespace Go.Ax
open Go.RowKit Go.Proofs
set_option linter.unusedVariables false
set_option linter.unusedSimpArgs false
set_option maxRecDepth 100000
/-- What digits spell, behind what was spelt. -/
def numV : Nat → List UInt8 → Nat
  | a, [] => a
  | a, c :: r => numV (a * 10 + (c.toNat - 48)) r
def digB (b : UInt8) : Bool := 48 ≤ b.toNat && b.toNat ≤ 57
/-- strconv.ParseUint of digits. -/
def puI (args : List AV) : Option AV := match args with
  | [.v (.string s), .v (.int .i64 10), .v (.int .i64 64)] => if s.data.toList ≠ [] ∧ s.data.toList.all digB = true ∧ numV 0 s.data.toList < 18446744073709551616 ∧ s.size ≤ 9223372036854775806 then some (.tup [.v (.int .u64 (numV 0 s.data.toList)), .v .nilIface]) else none
  | _ => none
def rowM (t : Nat) : Nat := Bool.rec (Bool.rec (Bool.rec (Bool.rec 0 2 (Nat.beq t 138)) 2 (Nat.beq t 136)) 1 (Nat.beq t 47)) 1 (Nat.beq t 28)
def E1 : Env := { P := Tryz.prog, G := fun _ => none, F := fun k => match Tryz.prog.funcs[k]? with | some fn => if fn.body.isSome then some fn else none | none => none, I := fun k => Bool.rec (Bool.rec none (some (growI 6)) (Nat.beq k 94)) (some (plainI puI)) (Nat.beq k 133), M := rowM }
theorem e1_names : (Tryz.prog.funcs.toList.all fun fn => !(fn.name == "runtime.NumGoroutine")) = true := by kernel_rfl
theorem e1_ok : E1.Ok := ⟨fun k fn h => by
  simp only [E1] at h
  split at h
  · rename_i fn' hf
    split at h
    · rename_i hb
      injection h with h; subst h
      have hm : fn' ∈ Tryz.prog.funcs.toList := by
        have := Array.mem_of_getElem? hf
        simpa using this
      have := List.all_eq_true.1 e1_names fn' hm
      exact ⟨hf, by simpa using this, Option.isSome_iff_exists.1 hb⟩
    · cases h
  · cases h⟩
theorem numV_ge : ∀ (l : List UInt8) (a : Nat), a ≤ numV a l
  | [], a => Nat.le_refl _
  | c :: r, a => by
    have := numV_ge r (a * 10 + (c.toNat - 48))
    show a ≤ numV (a * 10 + (c.toNat - 48)) r
    omega
theorem parseM_ok : ∀ (l : List UInt8) (a : Nat), l.all digB = true → numV a l < 18446744073709551616 → Lib.parseUintM (2 ^ 64 - 1) a l = .ok (numV a l)
  | [], a, _, _ => rfl
  | c :: r, a, hd, h => by
    rw [List.all_cons, Bool.and_eq_true] at hd
    have hc : 48 ≤ c.toNat ∧ c.toNat ≤ 57 := by have := hd.1; unfold digB at this; simpa using this
    have h1 : a * 10 + (c.toNat - 48) ≤ numV (a * 10 + (c.toNat - 48)) r := numV_ge r _
    have h2 : numV a (c :: r) = numV (a * 10 + (c.toNat - 48)) r := rfl
    rw [h2] at h ⊢
    unfold Lib.parseUintM
    rw [if_pos hc, if_neg (by omega), if_neg (by omega)]
    exact parseM_ok r _ hd.2 h
theorem parse_ok {l : List UInt8} (hn : l ≠ []) (hd : l.all digB = true) (h : numV 0 l < 18446744073709551616) : Lib.parseUintB 64 l = .ok (numV 0 l) := by
  unfold Lib.parseUintB; rw [if_neg hn]; exact parseM_ok l 0 hd h
theorem VRL.three {γ : Gh} {w : World} {a b c : AV} {vs : List Value} (h : VRL γ w [a, b, c] vs) : ∃ x y z, vs = [x, y, z] ∧ VR γ w a x ∧ VR γ w b y ∧ VR γ w c z := by
  obtain ⟨h1, h2⟩ := h
  match vs, h1 with
  | [x, y, z], _ => exact ⟨x, y, z, rfl, h2 0 (by simp) (by simp), h2 1 (by simp) (by simp), h2 2 (by simp) (by simp)⟩
theorem puI_ok : ∀ args a, puI args = some a → ∀ γ w (vs : List Value), VRL γ w args vs → Calls Tryz.prog 133 vs.toArray w fun e w' => Below w.heap.size w w' ∧ ∃ v, e = .returned v ∧ ∀ γ w, VR γ w a v := by
  intro args a h γ w vs hv
  unfold puI at h
  split at h
  · rename_i s
    split at h
    · rename_i hc
      obtain ⟨h0, h1, h2, h3⟩ := hc
      injection h with h; subst h
      obtain ⟨x, y, z, rfl, hx, hy, hz⟩ := hv.three
      cases hx; cases hy; cases hz
      refine (Tryz.strconv_ParseUint_10_at64_ok s h3 _ (parse_ok h0 h1 h2) w).mono fun e w' he => ⟨?_, _, he.1, fun γ w => ?_⟩
      · rcases he.2 with rfl | rfl
        · exact .refl _ _
        · exact Lib.bytesWorld_below _ _ _
      · exact .tup _ _ rfl (fun k hk hk' => by
          match k, hk with
          | 0, _ => exact .v _ rfl
          | 1, _ => exact .v _ rfl)
    · cases h
  · cases h
theorem e1_intr : IntrOk E1 := fun k g hk base w0 args S hne γ w vs hS hg hv => by
  have hk2 : (Bool.rec (Bool.rec none (some (growI 6)) (Nat.beq k 94)) (some (plainI puI)) (Nat.beq k 133) : Option (List AV → St → R)) = some g := hk
  cases hb : Nat.beq k 133 with
  | false =>
    rw [hb] at hk2
    cases hc : Nat.beq k 94 with
    | false => rw [hc] at hk2; cases hk2
    | true =>
      rw [hc] at hk2
      injection hk2 with hk2; subst hk2
      have : k = 94 := Nat.eq_of_beq_eq_true hc
      subst this
      exact grow_I base w0 args S hne γ w vs hS hv
  | true =>
    rw [hb] at hk2
    injection hk2 with hk2; subst hk2
    have : k = 133 := Nat.eq_of_beq_eq_true hb
    subst this
    exact plainI_ok (P := Tryz.prog) (k := 133) puI_ok base w0 args S hne γ w vs hS hv
theorem e1_mix : E1.P.follows .mixedOrders = true := by kernel_rfl
end Go.Ax
