/-
  SplitMany, walked to where its finitely many cases begin.
-/
import Derived.Test.YtmlelgncmjpcoaaGreatDoorWNl
noncomputable section
namespace Go.Ax
open Go.RowKit Go.Proofs
set_option linter.unusedVariables false
set_option linter.unusedSimpArgs false
set_option maxRecDepth 100000
/-- The frame by then: a number. -/
def fr1 (k : Int) : T AV := T.leaf.set 0 (some (.v (.int .i64 k)))
theorem fr1_ok {k : Int} {w : World} {tmps : Array Value} (h0 : tmps[0]? = some (.int .i64 k)) : FR Gh0 w (fr1 k) tmps := by
  intro t a h
  unfold fr1 at h
  rw [T.get_set, T.get_leaf] at h
  split at h
  · rename_i e; subst e
    injection h with h; subst h
    obtain ⟨hl, he⟩ := Array.getElem?_eq_some_iff.1 h0
    exact ⟨hl, by simp only [Array.getD_eq_getD_getElem?, h0, Option.getD_some]; exact .v _ rfl⟩
  · cases h
theorem split_awake (w : World) : Calls Tryz.prog 7 #[] w fun e w' => e = .returned (.bool true) ∧ Below w.heap.size w w' :=
  callsX_true (E := E1) e1_ok e1_intr e1_mix rfl (m := 2000) (k := 7) (args := []) (by kernel_rfl) (by kernel_rfl) (vs := []) ⟨rfl, fun k hk => by cases hk⟩
/-- What is run behind the number's being cut to size. -/
noncomputable def splitManyRest : Code := match Tryz.f3.body with
  | some (.seq _ (.seq _ (.seq _ r))) => r
  | _ => .skip
/-- From there on all is well. -/
def GoodSm (k : Nat) : Prop := ∀ (Q : Exit → Act → World → Prop) (act : Act) (w : World), FR Gh0 w (fr1 ((k + 1 : Nat) : Int)) act.tmps → act.tmps.size = 101 → act.defers = [] →
    (∀ act' w', act'.tmps.size = 101 → act'.defers = [] → act'.tmps[2]? = some (.bool true) → Below w.heap.size w w' → Q .ret act' w') → splitManyRest.wp Tryz.prog Q act w
theorem goodSm_of {E : Env} (hE : E.Ok) (hI : IntrOk E) (hP : E.P = Tryz.prog) (hG : E.G = fun _ => none) {k : Nat} (h : endsTrue 2 ((comp E 101 splitManyRest none).c (callX E 2000) (fr1 ((k + 1 : Nat) : Int)) [] St0) = true) : GoodSm k := fun Q act w hf hn hd hQ => by
  have := codeX_true (c := splitManyRest) (E := E) hE hI (by rw [hP]; exact e1_mix) hG (m := 2000) (n := 101) (t := 2) h (Q := Q) hf hn hd hQ
  rw [hP] at this; exact this
theorem splitMany_walk (hc : ∀ k : Nat, k < 6 → GoodSm k) (n : Int) (w : World) : Calls Tryz.prog 3 #[.int .i64 n] w fun x w' => x = .returned (.bool true) ∧ Below w.heap.size w w' := by
  go_enter Tryz.func3, Tryz.ntmps3
  refine wp_seq_k fun K0 h0 => ?_
  have H0 := Lib.hid h0; clear h0
  go_wp2_with fail
  refine H0.out _ _ ?_
  clear H0 K0
  refine wp_seq_k fun K1 h1 => ?_
  have H1 := Lib.hid h1; clear h1
  go_wp2_with fail
  refine (split_awake w).mono ?_
  rintro x w1 ⟨rfl, hb1⟩
  go_wp2_with fail
  refine H1.out _ _ ?_
  clear H1 K1
  refine wp_seq_k fun K2 h2 => ?_
  have H2 := Lib.hid h2; clear h2
  obtain ⟨k, hk, hz⟩ := and_mod n 255 6 (by decide) (by decide)
  have hz2 : (bits BinOp.and IntKind.i64 n 255).tmod 6 = (k : Int) := hz
  have hw : ((1 : Int) + (k : Int)) = ((k + 1 : Nat) : Int) := by push_cast; omega
  go_wp2_with fail
  refine H2.out _ _ ?_
  clear H2 K2
  refine hc k hk _ _ _ (fr1_ok ?_) rfl rfl ?_
  · show some (Value.int .i64 _) = some (Value.int .i64 _)
    rfl
  intro act' w' hs hd ht hb2
  refine ⟨hd, .bool true, ?_, rfl, hb1.trans (hb2.mono hb1.size)⟩
  have h4 : act'.tmps.getD 2 undef = .bool true := by simp [Array.getD_eq_getD_getElem?, ht]
  simp [results, Tryz.f3, h4, go_sem, ht]
end Go.Ax
