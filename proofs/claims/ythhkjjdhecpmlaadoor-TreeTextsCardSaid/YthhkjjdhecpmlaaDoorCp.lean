/-
  The contracts of slices.Clone and of tree.copyExpr: a copy, in new memory.
-/
import Derived.Test.YthhkjjdhecpmlaaDoorOw
import Derived.Lib.SliceRun
namespace Go.Proofs.YthhkjjdhecpmlaaDoor
open Go.RowKit
set_option linter.unusedVariables false
set_option linter.unusedSimpArgs false
set_option maxRecDepth 20000 in
theorem clone_nil (w : World) : Calls Tryd.prog 83 #[.slice none 0 0] w fun x w' => x = .returned (.slice none 0 0) ∧ w' = w := by
  have q47 : ∀ (w : World) (a : Option Addr) (n c n' c' : Nat), (binOp .eql 47 (.slice a n c) (.slice none n' c')).run Tryd.prog w = .ok (.bool a.isNone) w := fun w a n c n' c' => Lib.run_eql_slice_nil w _ _ a n c n' c' Tryd.underlying47
  go_enter Tryd.func83, Tryd.ntmps83
  go_wp2_with fail
  go_ret
  exact ⟨rfl, rfl⟩
/-- A clone: a row of the call's own. -/
def CloneOut (w : World) (len : Nat) (news : List Value) (x : Ending) (w' : World) : Prop :=
  ∃ g c, x = .returned (.slice (some ⟨g, 0, none⟩) len c) ∧ w'.ownsRow w.heap.size 49 6 (.slice (some ⟨g, 0, none⟩) len c) len news ∧ Below w.heap.size w w'
theorem add_at (b o j : Nat) : (⟨b, o, none⟩ : Addr).add j = ⟨b, o + j, none⟩ := by unfold Addr.add; split <;> simp_all
theorem own_empty (w : World) : (w.alloc (.cells #[] 49)).ownsRow w.heap.size 49 6 (.slice (some ⟨w.heap.size, 0, none⟩) 0 0) 0 [] :=
  ⟨by simp, .inr ⟨w.heap.size, 0, #[], rfl, Nat.le_refl _, heap_alloc_new w _, Nat.le_refl _, by unfold maxLen; omega, by simp, by simp⟩⟩
set_option maxHeartbeats 1000000 in
set_option maxRecDepth 20000 in
theorem clone_any (b o len cap : Nat) (w : World) (news : List Value) (hlen : news.length = len * 6) (hl : len ≤ 1000000)
    (hnews : ∀ j u, news[j]? = some u → w.cell? ⟨b, o + j, none⟩ = some u) (h1 : ∀ u ∈ news, u.oneCell' = true) (hb : b < w.heap.size) :
    Calls Tryd.prog 83 #[.slice (some ⟨b, o, none⟩) len cap] w (CloneOut w len news) := by
  obtain ⟨i0, hi, hz0, hz1, hz2⟩ := info_parts info49
  have HN := Lib.hid hnews; have H1 := Lib.hid h1; have HL := Lib.hid hlen
  clear hnews h1 hlen
  have q47 : ∀ (w : World) (a : Option Addr) (n c n' c' : Nat), (binOp .eql 47 (.slice a n c) (.slice none n' c')).run Tryd.prog w = .ok (.bool a.isNone) w := fun w a n c n' c' => Lib.run_eql_slice_nil w _ _ a n c n' c' Tryd.underlying47
  go_enter Tryd.func83, Tryd.ntmps83
  go_wp2_with (at_builtin; refine wpList_append_own _ rfl (.tmp 5) (.tmp 6) 47 rfl w.heap.size 49 i0 _ 6 72 Tryd.underlying47 hi hz0 hz1 hz2 rfl (by decide) (.slice (some ⟨w.heap.size, 0, none⟩) 0 0) 0 [] rfl (own_empty w) ⟨b, o, none⟩ len cap news rfl HL.out (fun j u h => by rw [add_at]; exact alloc_cell hb (HN.out j u h) _) H1.out (by unfold maxLen; omega) (by omega) (by simp) ?_; intro v' w3 hown hg hnil)
  go_wp2_with fail
  go_ret
  have hbz : Below w.heap.size w w3 := ((Below.refl _ w).alloc (Nat.le_refl _) _).grown hg (by simp) (by intro k hk; simp [Value.ownBlock] at hk; omega)
  rw [Nat.zero_add] at hown
  rcases hown.2 with ⟨hv, h0⟩ | ⟨g, c2, cur, hv, hr⟩
  · exact absurd hv (by rw [hnil]; simp)
  · subst hv
    exact ⟨g, c2, rfl, by simpa using hown, hbz⟩
end Go.Proofs.YthhkjjdhecpmlaaDoor
