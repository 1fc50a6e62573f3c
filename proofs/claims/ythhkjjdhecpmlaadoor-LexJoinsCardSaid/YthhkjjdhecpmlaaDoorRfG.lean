/-
  girandolelaw01.LexReads, walked.
-/
import Derived.Test.YthhkjjdhecpmlaaDoorRfF
import Derived.Deep.QuietTactic
import Derived.BigQuiet
namespace Go.Proofs.YthhkjjdhecpmlaaDoor
open Go.RowKit
/-- At most 300 bytes. -/
def cut (s : ByteArray) : ByteArray := if 300 < s.size then s.extract 0 300 else s
theorem cut_size (s : ByteArray) : (cut s).size ≤ 300 := by
  unfold cut; split
  · rw [extract_size' (by omega) (by omega)]; omega
  · omega
set_option maxHeartbeats 400000 in
theorem cut_any (s : ByteArray) (w : World) (hs : s.size ≤ 9223372036854775807) :
    Calls Tryd.prog 11 #[.string s, .int .i64 300] w fun e w' => e = .returned (.string (cut s)) ∧ w = w' := by
  by_cases h : (300 : Int) < s.size
  · have H := Lib.hid (show cut s = s.extract 0 300 by unfold cut; rw [if_pos (by omega)])
    go_enter Tryd.func11, Tryd.ntmps11
    go_wp2
    go_ret
    rw [H.out]; exact ⟨rfl, rfl⟩
  · have H := Lib.hid (show cut s = s by unfold cut; rw [if_neg (by omega)])
    go_enter Tryd.func11, Tryd.ntmps11
    go_wp2
    go_ret
    rw [H.out]; exact ⟨rfl, rfl⟩
theorem tokCells_at : ∀ (l : List Tk) (j : Nat) (h : j < l.length), (tokCells l)[j * 4]? = some (.int .i64 l[j].kind) ∧ (tokCells l)[j * 4 + 1]? = some (.int .i64 l[j].pos) ∧ (tokCells l)[j * 4 + 2]? = some (.string l[j].text) ∧ (tokCells l)[j * 4 + 3]? = some (.int .u64 l[j].num)
  | T :: r, 0, _ => ⟨rfl, rfl, rfl, rfl⟩
  | T :: r, j + 1, h => by
    have ih := tokCells_at r j (by simpa using h)
    have e : tokCells (T :: r) = [.int .i64 T.kind, .int .i64 T.pos, .string T.text, .int .u64 T.num] ++ tokCells r := rfl
    rw [e]
    refine ⟨?_, ?_, ?_, ?_⟩
    · rw [List.getElem?_append_right (by simp; omega), show (j + 1) * 4 - [Value.int .i64 T.kind, .int .i64 T.pos, .string T.text, .int .u64 T.num].length = j * 4 from by simp; omega]; exact ih.1
    · rw [List.getElem?_append_right (by simp; omega), show (j + 1) * 4 + 1 - [Value.int .i64 T.kind, .int .i64 T.pos, .string T.text, .int .u64 T.num].length = j * 4 + 1 from by simp; omega]; exact ih.2.1
    · rw [List.getElem?_append_right (by simp; omega), show (j + 1) * 4 + 2 - [Value.int .i64 T.kind, .int .i64 T.pos, .string T.text, .int .u64 T.num].length = j * 4 + 2 from by simp; omega]; exact ih.2.2.1
    · rw [List.getElem?_append_right (by simp; omega), show (j + 1) * 4 + 3 - [Value.int .i64 T.kind, .int .i64 T.pos, .string T.text, .int .u64 T.num].length = j * 4 + 3 from by simp; omega]; exact ih.2.2.2
/-- A row of tokens in a block. -/
def Toks (w : World) (b : Nat) (l : List Tk) : Prop := b < w.heap.size ∧ ∀ j (h : j < l.length), w.cell? ⟨b, j * 4, none⟩ = some (.int .i64 l[j].kind) ∧ w.cell? ⟨b, j * 4 + 1, none⟩ = some (.int .i64 l[j].pos) ∧ w.cell? ⟨b, j * 4 + 2, none⟩ = some (.string l[j].text) ∧ w.cell? ⟨b, j * 4 + 3, none⟩ = some (.int .u64 l[j].num)
theorem Toks.below {w w' : World} {b : Nat} {l : List Tk} (h : Toks w b l) (hb : Below w.heap.size w w') : Toks w' b l :=
  ⟨Nat.lt_of_lt_of_le h.1 hb.size, fun j hj => by
    obtain ⟨h0, h1, h2, h3⟩ := h.2 j hj
    exact ⟨(hb.cell (p := ⟨b, j * 4, none⟩) h.1).trans h0, (hb.cell (p := ⟨b, j * 4 + 1, none⟩) h.1).trans h1, (hb.cell (p := ⟨b, j * 4 + 2, none⟩) h.1).trans h2, (hb.cell (p := ⟨b, j * 4 + 3, none⟩) h.1).trans h3⟩⟩
theorem toks_of {w : World} {base e : Nat} {v : Value} {l : List Tk} (hl : 0 < l.length) (h : w.ownsRow base e 4 v l.length (tokCells l)) : ∃ b cap, v = .slice (some ⟨b, 0, none⟩) l.length cap ∧ Toks w b l := by
  rcases h.2 with ⟨_, h0⟩ | ⟨g, cap, cur, hv, hbg, hg, hrest⟩
  · omega
  · subst hv
    refine ⟨g, cap, rfl, (Array.getElem?_eq_some_iff.1 hg).1, fun j hj => ?_⟩
    obtain ⟨h0, h1, h2, h3⟩ := tokCells_at l j hj
    exact ⟨(h.cellAt _ (by omega)).trans h0, (h.cellAt _ (by omega)).trans h1, (h.cellAt _ (by omega)).trans h2, (h.cellAt _ (by omega)).trans h3⟩
theorem lexF_pos (s : ByteArray) : ∀ f k acc l, s.size + 1 - k ≤ f → k ≤ s.size → lexF s f k acc = .inr l → 0 < l.length ∧ l.length ≤ acc.length + f
  | 0, k, acc, l, h, hk, he => by omega
  | f + 1, k, acc, l, h, hk, he => by
    unfold lexF at he
    by_cases hlt : k < s.size
    · rw [dif_pos hlt] at he
      by_cases h0 : (nextT s k s[k]).2 = 0
      · rw [if_pos h0] at he
        have hs := nextT_ok hlt h0
        have hq := skipN_ge (s := s) (k := k + (nextT s k s[k]).1.text.size) hs.2.2.1
        have := hs.2.1
        have ih := lexF_pos s f _ _ l (by omega) hq.2 he
        simp at ih
        omega
      · rw [if_neg h0] at he; cases he
    · rw [dif_neg hlt] at he
      cases he
      simp
theorem lexR_len {s : ByteArray} {l : List Tk} (h : lexR s (skipN s 0) [] = .inr l) : 0 < l.length ∧ l.length ≤ s.size + 1 := by
  have hsk := skipN_ge (s := s) (k := 0) (by omega)
  have := lexF_pos s _ _ _ _ (Nat.le_refl _) hsk.2 h
  simp at this
  omega
theorem belowDrawn {B : Nat} {a w : World} (h : Below B a w) (n : Nat) : Below B a (w.drewN n) := ⟨h.os, h.tape, h.output, h.size, h.block⟩
set_option maxHeartbeats 4000000 in
set_option maxRecDepth 100000 in
theorem lexReads_walk (s0 : ByteArray) (w : World) (hs0 : s0.size ≤ 9223372036854775807) (hr : Rng w) :
    Calls Tryd.prog 3 #[.string s0] w fun e w' => e = .returned (.bool true) ∧ Below w.heap.size w w' := by
  have HR := Lib.hid hr; clear hr
  have hs := cut_size s0
  go_enter Tryd.func3, Tryd.ntmps3
  go_wp2_with fail
  refine (cut_any s0 _ hs0).mono ?_
  rintro x w' ⟨rfl, rfl⟩
  generalize cut s0 = s at *
  go_wp2_with fail
  refine (awakeLex _ HR.out).mono ?_
  rintro x w1 ⟨rfl, hb1⟩
  have HR1 := Lib.hid (HR.out.below hb1); have HB1 := Lib.hid hb1; clear hb1
  go_wp2_with fail
  refine (all_any s _ (by omega) HR1.out).mono ?_
  rintro x w2 ⟨hb2, h2⟩
  have HB2 := Lib.hid (HB1.out.trans (hb2.mono HB1.out.size)); clear hb2
  obtain ⟨R, hR⟩ : ∃ R, lexR s (skipN s 0) [] = R := ⟨_, rfl⟩
  have HREF := Lib.hid (fun w => refAll_any s w (by omega))
  rw [hR] at h2
  cases R with
  | inl p =>
    obtain ⟨k, er⟩ := p
    subst h2
    go_wp2_with fail
    refine (HREF.out _).mono ?_
    rintro x w3 ⟨hb3, h3⟩
    rw [hR] at h3
    subst h3
    simp only [World.size_alloc] at hb3
    have hz3 : w2.heap.size < w3.heap.size := by have := hb3.size; simp at this; omega
    have e0 : w3.cell? ⟨w2.heap.size, 0, none⟩ = some (.int .i64 k) := by rw [hb3.cell (p := ⟨w2.heap.size, 0, none⟩) (by simp)]; simp
    have e1 : w3.cell? ⟨w2.heap.size, 1, none⟩ = some (.int .i64 er) := by rw [hb3.cell (p := ⟨w2.heap.size, 1, none⟩) (by simp)]; simp
    have HB3 := Lib.hid (HB2.out.trans (((Below.refl w2.heap.size w2).alloc (Nat.le_refl _) _).trans (hb3.mono (by omega)) |>.mono HB2.out.size))
    clear hb3 hR
    go_wp2_with fail
    go_loopw [44] (fun t w' => t = .int .i64 0 ∧ w' = w3) (fun _ _ => 0)
    case atStart => exact ⟨rfl, rfl⟩
    case round =>
      obtain ⟨rfl, rfl⟩ := hrel
      go_wp2_with fail
      go_ret
      exact ⟨rfl, HB3.out⟩
  | inr l =>
    obtain ⟨v, rfl, ho⟩ := h2
    have hlen := lexR_len hR
    obtain ⟨b, cap, rfl, htk⟩ := toks_of hlen.1 ho
    have HTK := Lib.hid htk; clear htk ho
    go_wp2_with fail
    refine (HREF.out _).mono ?_
    rintro x w3 ⟨hb3, h3⟩
    rw [hR] at h3
    obtain ⟨v, rfl, ho⟩ := h3
    obtain ⟨b', cap', rfl, htk'⟩ := toks_of hlen.1 ho
    have HTK3 := Lib.hid (Toks.below (Toks.below HTK.out ((Below.refl _ _).alloc (Nat.le_refl _) _)) hb3)
    simp only [World.size_alloc] at hb3
    have hz3 : w2.heap.size < w3.heap.size := by have := hb3.size; simp at this; omega
    have e0 : w3.cell? ⟨w2.heap.size, 0, none⟩ = some (.int .i64 0) := by rw [hb3.cell (p := ⟨w2.heap.size, 0, none⟩) (by simp)]; simp
    have e1 : w3.cell? ⟨w2.heap.size, 1, none⟩ = some (.int .i64 0) := by rw [hb3.cell (p := ⟨w2.heap.size, 1, none⟩) (by simp)]; simp
    have HB3 := Lib.hid (HB2.out.trans (((Below.refl w2.heap.size w2).alloc (Nat.le_refl _) _).trans (hb3.mono (by omega)) |>.mono HB2.out.size))
    have HTK' := Lib.hid htk'
    clear hb3 hR ho htk' HTK
    go_wp2_with fail
    clear e0 e1
    go_loopw [44] (fun t wr => ∃ j : Nat, t = .int .i64 j ∧ j ≤ l.length ∧ Below w3.heap.size w3 wr) (fun t _ => l.length - (intOf t).toNat)
    case atStart => exact ⟨0, rfl, Nat.zero_le _, Below.refl _ _⟩
    case round =>
      obtain ⟨j, rfl, hj, hbr⟩ := hrel
      have HBR := Lib.hid hbr; clear hbr
      by_cases hlt : j < l.length
      · have t1 := Toks.below HTK3.out HBR.out
        have t2 := Toks.below HTK'.out HBR.out
        have hz1 := t1.1
        have hz2 := t2.1
        obtain ⟨a0, a1, a2, a3⟩ := t1.2 j hlt
        obtain ⟨r0, r1, r2, r3⟩ := t2.2 j hlt
        clear t1 t2
        generalize l[j] = T at *
        obtain ⟨kd, ps, tx, nm⟩ := T
        go_wp2_with fail
        go_quiet (fail)
        go_wp2_with fail
        go_roundw
        case rel => exact ⟨j + 1, by go_num, by omega, belowDrawn (HBR.out.alloc HBR.out.size _) _⟩
        case measure => simp [intOf]; omega
      · have hje : j = l.length := by omega
        clear hlt
        go_wp2_with fail
        go_ret
        exact ⟨rfl, HB3.out.trans (HBR.out.mono HB3.out.size)⟩
end Go.Proofs.YthhkjjdhecpmlaaDoor
