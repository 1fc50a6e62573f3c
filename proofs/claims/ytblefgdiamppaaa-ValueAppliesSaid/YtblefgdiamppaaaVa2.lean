/-
  girandolelaw10.ValueApplies returns true for every four numbers, in whatever memory; its arguments read as they did. There are no further conditions.
-/
import Derived.Test.YtblefgdiamppaaaRows
import Derived.Test.YtblefgdiamppaaaVd0
import Derived.Test.YtblefgdiamppaaaVd1
import Derived.Test.YtblefgdiamppaaaVd2
import Derived.Test.YtblefgdiamppaaaVd3
import Derived.WalkKit
import Derived.ProofKit
import Derived.OpenShut
namespace Go.Proofs.Ytblefgdiamppaaa
open Go.ChangeShapes Go.WideShapes Go.ChangeAt Go.RowKit
set_option linter.unusedVariables false      

theorem own : ownKnob Try.prog.godebug = none := by kernel_rfl

theorem walk (a0 : Int) (a1 : Int) (a2 : Int) (a3 : Int) (w0 : (Lit.int .i64 a0).wf = true) (w1 : (Lit.int .i64 a1).wf = true) (w2 : (Lit.int .i64 a2).wf = true) (w3 : (Lit.int .i64 a3).wf = true) (w : World) :
    Calls Try.prog 3 #[.int .i64 a0, .int .i64 a1, .int .i64 a2, .int .i64 a3] w fun e w' => e = .returned (.bool true) ∧ Grown w w' := by
  obtain ⟨h1, h2⟩ := inBounds w1
  obtain ⟨h3, h4⟩ := inBounds w2
  obtain ⟨k, hk, hz⟩ := and_mod a0 65535 18 (by decide) (by decide)
  have hz2 : (bits .and .i64 a0 65535).tmod 18 = (k : Int) := hz
  have A := and_one a1
  have B := and_one a2
  rcases (show k = 0 ∨ k = 1 ∨ k = 2 ∨ k = 3 ∨ k = 4 ∨ k = 5 ∨ k = 6 ∨ k = 7 ∨ k = 8 ∨ k = 9 ∨ k = 10 ∨ k = 11 ∨ k = 12 ∨ k = 13 ∨ k = 14 ∨ k = 15 ∨ k = 16 ∨ k = 17 from by omega) with rfl | rfl | rfl | rfl | rfl | rfl | rfl | rfl | rfl | rfl | rfl | rfl | rfl | rfl | rfl | rfl | rfl | rfl
  · exact va_copy a0 a1 a2 a3 hz2 w
  · exact va_neg a0 a1 a2 a3 hz2 w
  · rcases A with A | A
    · exact va_not0 a0 a1 a2 a3 A hz2 w
    · exact va_not1 a0 a1 a2 a3 A hz2 w
  · exact va_if a0 a1 a2 a3 hz2 w
  · exact va_add a0 a1 a2 a3 hz2 w
  · exact va_sub a0 a1 a2 a3 hz2 w
  · exact va_mul a0 a1 a2 a3 hz2 w
  · by_cases hb : a2 = 0
    · exact va_div0 a0 a1 a2 a3 h1 h2 hb hz2 w
    · exact va_div1 a0 a1 a2 a3 h1 h2 h3 h4 hb hz2 w
  · by_cases hb : a2 = 0
    · exact va_mod0 a0 a1 a2 a3 h1 h2 hb hz2 w
    · exact va_mod1 a0 a1 a2 a3 h1 h2 h3 h4 hb hz2 w
  · rcases A with A | A <;> rcases B with B | B
    · exact va_and00 a0 a1 a2 a3 A B hz2 w
    · exact va_and01 a0 a1 a2 a3 A B hz2 w
    · exact va_and10 a0 a1 a2 a3 A B hz2 w
    · exact va_and11 a0 a1 a2 a3 A B hz2 w
  · rcases A with A | A <;> rcases B with B | B
    · exact va_or00 a0 a1 a2 a3 A B hz2 w
    · exact va_or01 a0 a1 a2 a3 A B hz2 w
    · exact va_or10 a0 a1 a2 a3 A B hz2 w
    · exact va_or11 a0 a1 a2 a3 A B hz2 w
  · rcases A with A | A <;> rcases B with B | B
    · exact va_xor00 a0 a1 a2 a3 A B hz2 w
    · exact va_xor01 a0 a1 a2 a3 A B hz2 w
    · exact va_xor10 a0 a1 a2 a3 A B hz2 w
    · exact va_xor11 a0 a1 a2 a3 A B hz2 w
  · exact va_lt a0 a1 a2 a3 hz2 w
  · exact va_le a0 a1 a2 a3 hz2 w
  · exact va_gt a0 a1 a2 a3 hz2 w
  · exact va_ge a0 a1 a2 a3 hz2 w
  · exact va_eq a0 a1 a2 a3 hz2 w
  · exact va_ne a0 a1 a2 a3 hz2 w

set_option maxRecDepth 100000 in
theorem lifted (os : Os) (started : os.Started) (H : Type) (enc : TypeId × Value → H) :
    ReturnsInHanded {} Try.checked os 3 .any (Rows.valueAppliesSpec.pre6 enc Try.prog Try.f3 Rows.valueAppliesRow.domain false) (Rows.valueAppliesSpec.post enc Try.prog Try.f3 false true false false) := by
  refine returnsInHanded_of_change (C := Try.checked) own started (by kernel_rfl) Try.func3
    (ChangeSpec.witness6 (enc := enc) (C := Try.checked) false ⟨#[], #[.int .i64 0, .int .i64 0, .int .i64 0, .int .i64 0], []⟩ 8 (by kernel_rfl) (by kernel_rfl) (by kernel_rfl) (by kernel_rfl)) ?_
  intro W base args ds gs before hval0 hW hcnd _
  have hval : ∀ (j : Nat) t v, Try.f3.params[j]? = some t → args[j]? = some v → Value.okWide Try.prog W .any base t v := hval0
  have hW' := hW
  obtain ⟨p, q, hA0, hV, rfl, hfz, hnd⟩ := hW
  have hA : DataW.TrodAll enc Try.prog W 0 (fun _ => true) true Try.f3.params.toList args.toList ds p := hA0
  rw [Try.params3] at hA hval
  obtain ⟨v0, vs0, d0, ds0, p0, q0, hargs, rfl, rfl, h0, r0⟩ := trodAll_cons hA
  obtain ⟨v1, vs1, d1, ds1, p1, q1, rfl, rfl, rfl, h1, r1⟩ := trodAll_cons r0
  obtain ⟨v2, vs2, d2, ds2, p2, q2, rfl, rfl, rfl, h2, r2⟩ := trodAll_cons r1
  obtain ⟨v3, vs3, d3, ds3, p3, q3, rfl, rfl, rfl, h3, r3⟩ := trodAll_cons r2
  obtain ⟨rfl, rfl, rfl⟩ := trodAll_nil r3
  obtain rfl : args = #[v0, v1, v2, v3] := by cases args; simp_all
  obtain ⟨rfl, rfl⟩ := trodVars_none hV
  obtain ⟨a0, rfl, rfl, rfl, w0⟩ := open_int Try.underlying3 (hval 0 3 v0 rfl rfl) h0
  obtain ⟨a1, rfl, rfl, rfl, w1⟩ := open_int Try.underlying2 (hval 1 2 v1 rfl rfl) h1
  obtain ⟨a2, rfl, rfl, rfl, w2⟩ := open_int Try.underlying2 (hval 2 2 v2 rfl rfl) h2
  obtain ⟨a3, rfl, rfl, rfl, w3⟩ := open_int Try.underlying2 (hval 3 2 v3 rfl rfl) h3
  clear hA0 hval0
  simp only [List.append_nil] at hW'
  refine (walk a0 a1 a2 a3 w0 w1 w2 w3 W).mono fun e W' ⟨he, hg⟩ => ?_
  subst he
  exact ⟨_, rfl, post_of_same (pa := []) (pv := []) hW' (fun _ _ _ => (trodAll_cons_mk (shut_bool Try.underlying4 _) trodAll_mk0)) (fun sp _ => (trodAll_cons_mk (shut_int Try.underlying3 w0) (trodAll_cons_mk (shut_int Try.underlying2 w1) (trodAll_cons_mk (shut_int Try.underlying2 w2) (trodAll_cons_mk (shut_int Try.underlying2 w3) trodAll_mk0))))) (fun _ _ => rfl) rfl
    (hg.frame _) hg.2.1 (ok_one (by kernel_rfl) rfl (okWide_bool_mk Try.underlying4 _))⟩

theorem over : Rows.valueAppliesRow.holds Try.pinned (OpenSpec.ofChange Rows.valueAppliesSpec) :=
  OpenClaim.holds_of_wide 3 Try.f3 rfl rfl rfl rfl rfl rfl rfl ⟨rfl, rfl, rfl, rfl, rfl⟩ rfl rfl rfl rfl rfl (by kernel_rfl) Try.func3 (by kernel_rfl)
    (of_decide_eq_true (by kernel_rfl)) (by unfold Func.isWrapper; first | (rw [if_pos (by decide +kernel)]; kernel_rfl) | (rw [if_neg (by decide +kernel)]; exact ⟨rfl, rfl⟩))
    (fun os started H enc _ => lifted os started H enc)

theorem valueApplies_proved : Rows.ValueAppliesSaid :=
  over
end Go.Proofs.Ytblefgdiamppaaa
