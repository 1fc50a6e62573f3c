/-
  OrderCalls, walked to where its finitely many cases begin.
-/
import Derived.Test.YtpjffjgdnendbaaGreatDoorWOl
noncomputable section
namespace Go.Ax
open Go.RowKit Go.Proofs
set_option linter.unusedVariables false
set_option linter.unusedSimpArgs false
set_option maxRecDepth 100000
theorem order_awake (w : World) : Calls Tryz.prog 12 #[] w fun e w' => e = .returned (.bool true) ∧ Below w.heap.size w w' :=
  callsX_true (E := E1) e1_ok e1_intr e1_mix rfl (m := 2000) (k := 12) (args := []) (by kernel_rfl) (by kernel_rfl) (vs := []) ⟨rfl, fun k hk => by cases hk⟩
/-- The frame by then: two numbers. -/
def fr2 (k j : Int) : T AV := (T.leaf.set 0 (some (.v (.int .i64 k)))).set 1 (some (.v (.int .i64 j)))
theorem fr2_ok {k j : Int} {w : World} {tmps : Array Value} (h0 : tmps[0]? = some (.int .i64 k)) (h1 : tmps[1]? = some (.int .i64 j)) : FR Gh0 w (fr2 k j) tmps := by
  have key : ∀ (i : Nat) (v : Value), tmps[i]? = some v → i < tmps.size ∧ tmps.getD i undef = v := fun i v h => by
    obtain ⟨hl, he⟩ := Array.getElem?_eq_some_iff.1 h
    exact ⟨hl, by simp only [Array.getD_eq_getD_getElem?, h, Option.getD_some]⟩
  intro t a h
  unfold fr2 at h
  rw [T.get_set, T.get_set, T.get_leaf] at h
  split at h
  · rename_i e; subst e
    injection h with h; subst h
    obtain ⟨q1, q2⟩ := key _ _ h1
    exact ⟨q1, by rw [q2]; exact .v _ rfl⟩
  · split at h
    · rename_i e; subst e
      injection h with h; subst h
      obtain ⟨q1, q2⟩ := key _ _ h0
      exact ⟨q1, by rw [q2]; exact .v _ rfl⟩
    · cases h
/-- What is run behind the numbers' being cut to size. -/
noncomputable def orderCallsRest : Code := match Tryz.f6.body with
  | some (.seq _ (.seq _ (.seq _ (.seq _ r)))) => r
  | _ => .skip
set_option maxHeartbeats 2000000 in
theorem orderCalls_walk (hc : ∀ k : Nat, k < 10 → ∀ j : Nat, j < k + 3 → endsTrue 4 ((comp E1 73 orderCallsRest none).c (callX E1 2000) (fr2 ((k + 1 : Nat) : Int) (j : Int)) [] St0) = true) (n m : Int) (w : World) : Calls Tryz.prog 6 #[.int .i64 n, .int .i64 m] w fun x w' => x = .returned (.bool true) ∧ Below w.heap.size w w' := by
  go_enter Tryz.func6, Tryz.ntmps6
  refine wp_seq_k fun K0 h0 => ?_
  have H0 := Lib.hid h0; clear h0
  go_wp2_with fail
  refine H0.out _ _ ?_
  clear H0 K0
  refine wp_seq_k fun K1 h1 => ?_
  have H1 := Lib.hid h1; clear h1
  go_wp2_with fail
  refine (order_awake w).mono ?_
  rintro x w1 ⟨rfl, hb1⟩
  go_wp2_with fail
  refine H1.out _ _ ?_
  clear H1 K1
  refine wp_seq_k fun K2 h2 => ?_
  have H2 := Lib.hid h2; clear h2
  obtain ⟨k, hk, hz⟩ := and_mod n 255 10 (by decide) (by decide)
  have hz2 : (bits BinOp.and IntKind.i64 n 255).tmod 10 = (k : Int) := hz
  go_wp2_with fail
  refine H2.out _ _ ?_
  clear H2 K2
  refine wp_seq_k fun K3 h3 => ?_
  have H3 := Lib.hid h3; clear h3
  obtain ⟨j, hj, hy⟩ := and_mod m 255 (k + 3) (by decide) (by omega)
  have hne : ¬ (1 + (k : Int) + 2 = 0) := by omega
  have hy2 : (bits BinOp.and IntKind.i64 m 255).tmod (1 + (k : Int) + 2) = (j : Int) := by
    have e : (1 + (k : Int) + 2) = ((k + 3 : Nat) : Int) := by push_cast; omega
    rw [e]; exact hy
  go_wp2_with fail
  refine H3.out _ _ ?_
  clear H3 K3
  refine codeX_true (c := orderCallsRest) (E := E1) e1_ok e1_intr e1_mix rfl (m := 2000) (n := 73) (t := 4) (f := fr2 ((k + 1 : Nat) : Int) (j : Int)) (hc k hk j hj) (fr2_ok ?_ rfl) rfl rfl ?_
  · show some (Value.int .i64 _) = some (Value.int .i64 _)
    congr 2; push_cast; omega
  intro act' w' hs hd ht hb2
  refine ⟨hd, .bool true, ?_, rfl, hb1.trans (hb2.mono hb1.size)⟩
  have h4 : act'.tmps.getD 4 undef = .bool true := by simp [Array.getD_eq_getD_getElem?, ht]
  simp [results, Tryz.f6, h4, go_sem, ht]
end Go.Ax
