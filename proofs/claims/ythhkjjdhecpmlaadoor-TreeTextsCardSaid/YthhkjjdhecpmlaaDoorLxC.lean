/-
  Package lex: HasPrefix, skip.
-/
import Derived.Test.YthhkjjdhecpmlaaDoorLxB
namespace Go.Proofs.YthhkjjdhecpmlaaDoor
open Go.RowKit
set_option linter.unusedVariables false
set_option linter.unusedSimpArgs false

/-- Does s begin with t? -/
def pre (t s : ByteArray) : Bool := if t.size ≤ s.size then (s.extract 0 t.size).toList == t.toList else false

set_option maxHeartbeats 400000 in
set_option maxRecDepth 20000 in
theorem hasPrefix_any (s t : ByteArray) (w : World) (hs : s.size ≤ 100000) (ht : t.size ≤ 1000) :
    Calls Tryd.prog 74 #[.string s, .string t] w fun e w' => e = .returned (.bool (pre t s)) ∧ w = w' := by
  by_cases h : t.size ≤ s.size
  · have H := Lib.hid (show pre t s = ((s.extract 0 t.size).toList == t.toList) by unfold pre; rw [if_pos h])
    go_enter Tryd.func74, Tryd.ntmps74
    go_wp2
    go_ret
    rw [H.out]; exact ⟨rfl, rfl⟩
  · have H := Lib.hid (show pre t s = false by unfold pre; rw [if_neg h])
    go_enter Tryd.func74, Tryd.ntmps74
    go_wp2
    go_ret
    rw [H.out]; exact ⟨rfl, rfl⟩

/-- Does a remark begin there? -/
def rem (s : ByteArray) (a : Nat) : Bool := pre ⟨#[45, 45]⟩ (s.extract a s.size)
theorem rem_size {s : ByteArray} {a : Nat} (h : rem s a = true) : a + 2 ≤ s.size := by
  unfold rem pre at h
  split at h
  · rename_i hh
    simp at hh
    have : (ByteArray.mk #[45, 45]).size = 2 := rfl
    omega
  · cases h
theorem rem_first {s : ByteArray} {a : Nat} (h : rem s a = true) (ha : a < s.size) : s[a] = 45 := by
  have hz := rem_size h
  unfold rem pre at h
  split at h
  · have h' := beq_iff_eq.1 h
    rw [ByteArray.toList_eq, ByteArray.toList_eq] at h'
    have h3 := congrArg (fun l => l[0]?) h'
    have e : s.data.size = s.size := rfl
    have e2 : (ByteArray.mk #[45, 45]).size = 2 := rfl
    rw [e2] at h3
    simp at h3
    show s.data[a]'ha = 45
    rw [List.getElem?_take_of_lt (by omega)] at h3
    simp at h3
    exact (Array.getElem?_eq_some_iff.1 h3).2
  · cases h

/-- The first place from k on that is of no blank and no remark. -/
def skipF (s : ByteArray) : Nat → Nat → Nat
  | 0, k => k
  | f + 1, k => if rem s (beh bBlank s k) = true then skipF s f (beh bLine s (beh bBlank s k)) else beh bBlank s k
def skipN (s : ByteArray) (k : Nat) : Nat := skipF s (s.size + 1 - k) k

theorem line_far {s : ByteArray} {a : Nat} (h : rem s a = true) : a + 1 ≤ beh bLine s a := by
  have hz := rem_size h
  have ha : a < s.size := by omega
  have h1 := rem_first h ha
  rw [beh_step ha (by rw [h1]; rfl)]
  exact beh_le

theorem skipF_any (s : ByteArray) : ∀ f g k, s.size + 1 - k ≤ f → s.size + 1 - k ≤ g → k ≤ s.size → skipF s f k = skipF s g k
  | 0, _, k, h, _, hk => by omega
  | _ + 1, 0, k, _, h, hk => by omega
  | f + 1, g + 1, k, h, h', hk => by
    unfold skipF
    by_cases hr : rem s (beh bBlank s k) = true
    · rw [if_pos hr, if_pos hr]
      have := line_far hr
      have h1 : k ≤ beh bBlank s k := beh_le
      have h2 : beh bBlank s k ≤ s.size := beh_size hk
      exact skipF_any s f g _ (by omega) (by omega) (beh_size h2)
    · rw [if_neg hr, if_neg hr]

theorem skipN_rem {s : ByteArray} {k : Nat} (hk : k ≤ s.size) (h : rem s (beh bBlank s k) = true) : skipN s k = skipN s (beh bLine s (beh bBlank s k)) := by
  have := line_far h
  have h1 : k ≤ beh bBlank s k := beh_le
  have h2 : beh bBlank s k ≤ s.size := beh_size hk
  have h3 : beh bLine s (beh bBlank s k) ≤ s.size := beh_size h2
  unfold skipN
  rw [show s.size + 1 - k = (s.size - k) + 1 from by omega]
  conv => lhs; unfold skipF
  rw [if_pos h]
  exact skipF_any s _ _ _ (by omega) (by omega) h3
theorem skipN_stop {s : ByteArray} {k : Nat} (hk : k ≤ s.size) (h : rem s (beh bBlank s k) = false) : skipN s k = beh bBlank s k := by
  unfold skipN
  rw [show s.size + 1 - k = (s.size - k) + 1 from by omega]
  unfold skipF
  rw [if_neg (by rw [h]; exact Bool.false_ne_true)]
theorem skipF_ge (s : ByteArray) : ∀ f k, k ≤ s.size → k ≤ skipF s f k ∧ skipF s f k ≤ s.size
  | 0, k, hk => ⟨Nat.le_refl _, hk⟩
  | f + 1, k, hk => by
    unfold skipF
    have h1 : k ≤ beh bBlank s k := beh_le
    have h2 : beh bBlank s k ≤ s.size := beh_size hk
    split
    · have h3 : beh bBlank s k ≤ beh bLine s (beh bBlank s k) := beh_le
      have := skipF_ge s f _ (beh_size (p := bLine) h2)
      omega
    · omega
theorem skipN_ge {s : ByteArray} {k : Nat} (hk : k ≤ s.size) : k ≤ skipN s k ∧ skipN s k ≤ s.size := skipF_ge s _ k hk

set_option maxHeartbeats 400000 in
set_option maxRecDepth 20000 in
theorem skip_any (s : ByteArray) (k : Nat) (w : World) (hs : s.size ≤ 100000) (hk : k ≤ s.size) :
    Calls Tryd.prog 45 #[.string s, .int .i64 k] w fun e w' => e = .returned (.int .i64 (skipN s k)) ∧ w = w' := by
  go_enter Tryd.func45, Tryd.ntmps45
  go_wp2_with fail
  go_loop [1] (fun t => ∃ j : Nat, j ≤ s.size ∧ t = .int .i64 j ∧ Hid (skipN s j = skipN s k)) (fun t => s.size - (intOf t).toNat)
  case atStart => exact ⟨k, hk, rfl, Lib.hid rfl⟩
  case round =>
    obtain ⟨j, hj, rfl, HJ⟩ := hrel
    go_wp2_with fail
    refine (behind_blank s j _ hs hj).mono ?_
    rintro e w' ⟨rfl, rfl⟩
    have h1 : beh bBlank s j ≤ s.size := beh_size hj
    have h2 : j ≤ beh bBlank s j := beh_le
    cases hr : rem s (beh bBlank s j)
    · have hq := skipN_stop hj hr
      have H := Lib.hid (hq.symm.trans HJ.out); have HR := Lib.hid hr; clear hq hr
      generalize beh bBlank s j = a at *
      go_wp2_with fail
      refine (hasPrefix_any _ _ _ (by simp; omega) (by decide)).mono ?_
      rintro e w' ⟨rfl, rfl⟩
      rw [show pre ⟨#[45, 45]⟩ (s.extract a s.size) = false from HR.out]
      go_wp2_with fail
      go_ret
      exact ⟨by rw [← H.out]; rfl, rfl⟩
    · have hq := skipN_rem hj hr
      have h3 := line_far hr
      have h4 : beh bLine s (beh bBlank s j) ≤ s.size := beh_size h1
      have H := Lib.hid (hq.symm.trans HJ.out); have HR := Lib.hid hr; clear hq hr
      generalize beh bBlank s j = a at *
      go_wp2_with fail
      refine (hasPrefix_any _ _ _ (by simp; omega) (by decide)).mono ?_
      rintro e w' ⟨rfl, rfl⟩
      rw [show pre ⟨#[45, 45]⟩ (s.extract a s.size) = true from HR.out]
      go_wp2_with fail
      refine (behind_line s a _ hs h1).mono ?_
      rintro e w' ⟨rfl, rfl⟩
      generalize beh bLine s a = c at *
      go_wp2_with fail
      go_round
      case rel => exact ⟨c, h4, rfl, H⟩
      case measure => simp [intOf]; omega
end Go.Proofs.YthhkjjdhecpmlaaDoor
