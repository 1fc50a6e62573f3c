/-
  This program's surroundings: its functions; strings.Repeat by its contract.
-/
import Derived.Test.YtddjnjhhkffjgaaGreatDoorAxShelf
import Derived.Test.YtddjnjhhkffjgaaGreatDoorCoXe
import Derived.Test.YtddjnjhhkffjgaaGreatDoorCoGr
import Derived.KernelRfl
noncomputable section
namespace Go.Ax
open Go.RowKit Go.Proofs
set_option linter.unusedVariables false
set_option linter.unusedSimpArgs false
set_option maxRecDepth 100000
def E1 : Env := { P := Tryz.prog, G := fun _ => none, F := fun k => match Tryz.prog.funcs[k]? with | some fn => if fn.body.isSome then some fn else none | none => none, I := fun k => Bool.rec (Bool.rec none (some (growI 6)) (Nat.beq k 101)) (some (plainI repeatI)) (Nat.beq k 10) }
theorem e1_names : (Tryz.prog.funcs.toList.all fun fn => !(fn.name == "runtime.NumGoroutine")) = true := by kernel_rfl
theorem e1_ok : E1.Ok := ⟨fun k fn h => by
  simp only [E1] at h
  split at h
  · rename_i fn' hf
    split at h
    · rename_i hb
      injection h with h; subst h
      have hm : fn' ∈ Tryz.prog.funcs.toList := by
        have := Array.mem_of_getElem? hf
        simpa using this
      have := List.all_eq_true.1 e1_names fn' hm
      exact ⟨hf, by simpa using this, Option.isSome_iff_exists.1 hb⟩
    · cases h
  · cases h⟩
theorem e1_intr : IntrOk E1 := fun k g hk base w0 args S hne γ w vs hS hg hv => by
  have hk2 : (Bool.rec (Bool.rec none (some (growI 6)) (Nat.beq k 101)) (some (plainI repeatI)) (Nat.beq k 10) : Option (List AV → St → R)) = some g := hk
  cases hb : Nat.beq k 10 with
  | false =>
    rw [hb] at hk2
    cases hc : Nat.beq k 101 with
    | false => rw [hc] at hk2; cases hk2
    | true =>
      rw [hc] at hk2
      injection hk2 with hk2; subst hk2
      have : k = 101 := Nat.eq_of_beq_eq_true hc
      subst this
      exact grow_I base w0 args S hne γ w vs hS hv
  | true =>
    rw [hb] at hk2
    injection hk2 with hk2; subst hk2
    have : k = 10 := Nat.eq_of_beq_eq_true hb
    subst this
    exact plainI_ok (P := Tryz.prog) (k := 10) (repeatI_ok fun s c w h1 h2 => Tryz.strings_Repeat s c w h1 h2) base w0 args S hne γ w vs hS hv
theorem e1_mix : E1.P.follows .mixedOrders = true := by kernel_rfl
end Go.Ax
