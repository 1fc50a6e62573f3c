/-
  Package lex: next: the token at a byte.
-/
import Derived.Test.YthhkjjdhecpmlaaDoorLxF
import Derived.Test.YthhkjjdhecpmlaaDoorLxG
namespace Go.Proofs.YthhkjjdhecpmlaaDoor
open Go.RowKit
set_option linter.unusedVariables false
set_option linter.unusedSimpArgs false

/-- A token. -/
structure Tk where
  kind : Int
  pos : Nat
  text : ByteArray
  num : Nat
def Tk.zero : Tk := ⟨0, 0, ⟨#[]⟩, 0⟩
abbrev Tk.val (t : Tk) : Value := tokV t.kind t.pos t.text t.num

def nameT (k : Nat) (t : ByteArray) : Tk × Int := if isOne wordL t = true then (⟨3, k, t, 0⟩, 0) else if 30 < t.size then (Tk.zero, 3) else (⟨1, k, t, 0⟩, 0)
def numT (k : Nat) (t : ByteArray) : Tk × Int :=
  if 1 < t.size ∧ t.data.toList.head? = some 48 then (Tk.zero, 1) else if 9223372036854775808 < numV 0 t.data.toList then (Tk.zero, 3) else (⟨2, k, t, numV 0 t.data.toList⟩, 0)
def signT (s : ByteArray) (k : Nat) : Tk × Int :=
  match firstOf s k signL with
  | some t => (⟨4, k, t, 0⟩, 0)
  | none => (Tk.zero, 1)
theorem numT_eq (k : Nat) (t : ByteArray) : numTok k t = ((numT k t).1.val, (numT k t).2) := by
  unfold numTok numT
  split
  · rfl
  · split <;> rfl
theorem signT_eq (s : ByteArray) (k : Nat) : signTok s k = ((signT s k).1.val, (signT s k).2) := by
  unfold signTok signT
  cases firstOf s k signL <;> rfl
/-- The token at a byte. -/
def nextT (s : ByteArray) (k : Nat) (b : UInt8) : Tk × Int :=
  if bLetter b = true then nameT k (s.extract k (beh bName s k)) else if bDigit b = true then numT k (s.extract k (beh bDigit s k)) else signT s k

theorem name_any77 (s : ByteArray) (k : Nat) (w : World) (hs : s.size ≤ 100000) (hk : k ≤ s.size) (T : Tk) (er : Int) (h : nameT k (s.extract k (beh bName s k)) = (T, er)) :
    Calls Tryd.prog 77 #[.string s, .int .i64 k] w fun e w' => e = .returned (.tuple #[T.val, .int .i64 er]) ∧ Below w.heap.size w w' := by
  unfold nameT at h
  by_cases h1 : isOne wordL (s.extract k (beh bName s k)) = true
  · rw [if_pos h1] at h; cases h
    exact name_word s k _ _ w hs hk rfl rfl h1
  · rw [if_neg h1] at h
    have h1' : isOne wordL (s.extract k (beh bName s k)) = false := by simpa using h1
    by_cases h2 : 30 < (s.extract k (beh bName s k)).size
    · rw [if_pos h2] at h; cases h
      exact name_long s k _ _ w hs hk rfl rfl h1' h2
    · rw [if_neg h2] at h; cases h
      exact name_name s k _ _ w hs hk rfl rfl h1' (Nat.le_of_not_lt h2)

set_option maxHeartbeats 1000000 in
set_option maxRecDepth 20000 in
theorem next_any (s : ByteArray) (k : Nat) (w : World) (hs : s.size ≤ 100000) (hk : k < s.size) (hr : Rng w) (T : Tk) (er : Int) (h : nextT s k s[k] = (T, er)) :
    Calls Tryd.prog 46 #[.string s, .int .i64 k] w fun e w' => e = .returned (.tuple #[T.val, .int .i64 er]) ∧ Below w.heap.size w w' := by
  have HR := Lib.hid hr; clear hr
  unfold nextT at h
  have hbx := (Below.refl w.heap.size w).alloc (Nat.le_refl _) (.cells #[.int .i64 0, .int .i64 0, .string ⟨#[]⟩, .int .u64 0] 36)
  have HBX := Lib.hid hbx; clear hbx
  cases hl : bLetter s[k]
  · rw [if_neg (by rw [hl]; exact Bool.false_ne_true)] at h
    have HL := Lib.hid hl; clear hl
    cases hd : bDigit s[k]
    · rw [if_neg (by rw [hd]; exact Bool.false_ne_true)] at h
      have HD := Lib.hid hd; clear hd
      have hc := fun w => sign_any s k w hs hk
      rw [signT_eq, h] at hc
      have HC := Lib.hid hc; have HH := Lib.hid h; clear hc h
      go_enter Tryd.func46, Tryd.ntmps46
      go_wp2_with fail
      refine (letter_any s[k] _).mono ?_
      rintro x w' ⟨rfl, rfl⟩
      rw [HL.out]
      go_wp2_with fail
      refine (digit_any s[k] _).mono ?_
      rintro x w' ⟨rfl, rfl⟩
      rw [HD.out]
      go_wp2_with fail
      refine (HC.out _).mono ?_
      rintro x w1 ⟨rfl, hb1⟩
      simp only [World.size_alloc] at hb1
      have hb0 : Below w.heap.size w w1 := HBX.out.trans (hb1.mono (by omega))
      have c0 : w1.cell? ⟨w.heap.size, 0, none⟩ = some (.int .i64 0) := by rw [hb1.cell (p := ⟨w.heap.size, 0, none⟩) (by simp)]; simp
      have c1 : w1.cell? ⟨w.heap.size, 1, none⟩ = some (.int .i64 0) := by rw [hb1.cell (p := ⟨w.heap.size, 1, none⟩) (by simp)]; simp
      have c2 : w1.cell? ⟨w.heap.size, 2, none⟩ = some (.string ⟨#[]⟩) := by rw [hb1.cell (p := ⟨w.heap.size, 2, none⟩) (by simp)]; simp
      have c3 : w1.cell? ⟨w.heap.size, 3, none⟩ = some (.int .u64 0) := by rw [hb1.cell (p := ⟨w.heap.size, 3, none⟩) (by simp)]; simp
      have z0 : ∀ o, w1.frozen? ⟨w.heap.size, o, none⟩ = false := fun o => by rw [hb1.frozen (p := ⟨w.heap.size, o, none⟩) (by simp)]; simp
      clear hb1
      go_wp2_with fail
      exact bodyPost_ret (v := .tuple #[T.val, .int .i64 er]) (by simp [results, Tryd.results46, go_sem, c0, c1, c2, c3]) rfl ⟨rfl, (((hb0.setCell (by simp) _).setCell (by simp) _).setCell (by simp) _).setCell (by simp) _⟩
    · rw [if_pos hd] at h
      have HD := Lib.hid hd
      have hc := fun w (hr : Rng w) => number_any s k _ _ w hs hk hd rfl rfl hr
      rw [numT_eq, h] at hc
      have HC := Lib.hid hc; have HH := Lib.hid h; clear hc h hd
      go_enter Tryd.func46, Tryd.ntmps46
      go_wp2_with fail
      refine (letter_any s[k] _).mono ?_
      rintro x w' ⟨rfl, rfl⟩
      rw [HL.out]
      go_wp2_with fail
      refine (digit_any s[k] _).mono ?_
      rintro x w' ⟨rfl, rfl⟩
      rw [HD.out]
      go_wp2_with fail
      refine (HC.out _ (HR.out.below HBX.out)).mono ?_
      rintro x w1 ⟨rfl, hb1⟩
      simp only [World.size_alloc] at hb1
      have hb0 : Below w.heap.size w w1 := HBX.out.trans (hb1.mono (by omega))
      have c0 : w1.cell? ⟨w.heap.size, 0, none⟩ = some (.int .i64 0) := by rw [hb1.cell (p := ⟨w.heap.size, 0, none⟩) (by simp)]; simp
      have c1 : w1.cell? ⟨w.heap.size, 1, none⟩ = some (.int .i64 0) := by rw [hb1.cell (p := ⟨w.heap.size, 1, none⟩) (by simp)]; simp
      have c2 : w1.cell? ⟨w.heap.size, 2, none⟩ = some (.string ⟨#[]⟩) := by rw [hb1.cell (p := ⟨w.heap.size, 2, none⟩) (by simp)]; simp
      have c3 : w1.cell? ⟨w.heap.size, 3, none⟩ = some (.int .u64 0) := by rw [hb1.cell (p := ⟨w.heap.size, 3, none⟩) (by simp)]; simp
      have z0 : ∀ o, w1.frozen? ⟨w.heap.size, o, none⟩ = false := fun o => by rw [hb1.frozen (p := ⟨w.heap.size, o, none⟩) (by simp)]; simp
      clear hb1
      go_wp2_with fail
      exact bodyPost_ret (v := .tuple #[T.val, .int .i64 er]) (by simp [results, Tryd.results46, go_sem, c0, c1, c2, c3]) rfl ⟨rfl, (((hb0.setCell (by simp) _).setCell (by simp) _).setCell (by simp) _).setCell (by simp) _⟩
  · rw [if_pos hl] at h
    have HL := Lib.hid hl; clear hl
    have hc := fun w => name_any77 s k w hs (by omega) T er h
    have HC := Lib.hid hc; have HH := Lib.hid h; clear hc h
    go_enter Tryd.func46, Tryd.ntmps46
    go_wp2_with fail
    refine (letter_any s[k] _).mono ?_
    rintro x w' ⟨rfl, rfl⟩
    rw [HL.out]
    go_wp2_with fail
    refine (HC.out _).mono ?_
    rintro x w1 ⟨rfl, hb1⟩
    simp only [World.size_alloc] at hb1
    have hb0 : Below w.heap.size w w1 := HBX.out.trans (hb1.mono (by omega))
    have c0 : w1.cell? ⟨w.heap.size, 0, none⟩ = some (.int .i64 0) := by rw [hb1.cell (p := ⟨w.heap.size, 0, none⟩) (by simp)]; simp
    have c1 : w1.cell? ⟨w.heap.size, 1, none⟩ = some (.int .i64 0) := by rw [hb1.cell (p := ⟨w.heap.size, 1, none⟩) (by simp)]; simp
    have c2 : w1.cell? ⟨w.heap.size, 2, none⟩ = some (.string ⟨#[]⟩) := by rw [hb1.cell (p := ⟨w.heap.size, 2, none⟩) (by simp)]; simp
    have c3 : w1.cell? ⟨w.heap.size, 3, none⟩ = some (.int .u64 0) := by rw [hb1.cell (p := ⟨w.heap.size, 3, none⟩) (by simp)]; simp
    have z0 : ∀ o, w1.frozen? ⟨w.heap.size, o, none⟩ = false := fun o => by rw [hb1.frozen (p := ⟨w.heap.size, o, none⟩) (by simp)]; simp
    clear hb1
    go_wp2_with fail
    exact bodyPost_ret (v := .tuple #[T.val, .int .i64 er]) (by simp [results, Tryd.results46, go_sem, c0, c1, c2, c3]) rfl ⟨rfl, (((hb0.setCell (by simp) _).setCell (by simp) _).setCell (by simp) _).setCell (by simp) _⟩
end Go.Proofs.YthhkjjdhecpmlaaDoor
