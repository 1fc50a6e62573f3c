/-
  Package girandoleref01: split, Words, Signs.
-/
import Derived.Test.YthhkjjdhecpmlaaDoorLxK
namespace Go.Proofs.YthhkjjdhecpmlaaDoor
open Go.RowKit
set_option linter.unusedVariables false
set_option linter.unusedSimpArgs false

theorem info9 : (Tryd.prog.info? 9).map (fun i => (i.zero, i.size, i.bytes)) = some (some (.string ⟨#[]⟩), 1, 16) := by kernel_rfl

/-- A text at blanks, from k on. -/
def splF (s : ByteArray) : Nat → Nat → List ByteArray → ByteArray → List ByteArray
  | 0, _, out, _ => out
  | f + 1, k, out, wd =>
    if h : k < s.size then
      (if s[k] = 32 then (if wd.toList = [] then splF s f (k + 1) out wd else splF s f (k + 1) (out ++ [wd]) ⟨#[]⟩)
       else if k + 1 = s.size then splF s f (k + 1) (out ++ [wd ++ s.extract k (k + 1)]) ⟨#[]⟩
       else splF s f (k + 1) out (wd ++ s.extract k (k + 1)))
    else out
def splR (s : ByteArray) (k : Nat) (out : List ByteArray) (wd : ByteArray) : List ByteArray := splF s (s.size - k) k out wd
theorem splR_end {s : ByteArray} {k : Nat} {out : List ByteArray} {wd : ByteArray} (h : ¬ k < s.size) : splR s k out wd = out := by
  unfold splR; rw [show s.size - k = 0 from by omega]; rfl
theorem splR_step {s : ByteArray} {k : Nat} {out : List ByteArray} {wd : ByteArray} (h : k < s.size) :
    splR s k out wd = if s[k] = 32 then (if wd.toList = [] then splR s (k + 1) out wd else splR s (k + 1) (out ++ [wd]) ⟨#[]⟩)
       else if k + 1 = s.size then splR s (k + 1) (out ++ [wd ++ s.extract k (k + 1)]) ⟨#[]⟩
       else splR s (k + 1) out (wd ++ s.extract k (k + 1)) := by
  conv => lhs; unfold splR
  rw [show s.size - k = (s.size - (k + 1)) + 1 from by omega]
  unfold splF
  rw [dif_pos h]; rfl

/-- What split says. -/
def SplPost (s : ByteArray) (w : World) (e : Ending) (w' : World) : Prop :=
  Below w.heap.size w w' ∧ ∃ v, e = .returned v ∧ w'.ownsRow w.heap.size 9 1 v (splR s 0 [] ⟨#[]⟩).length ((splR s 0 [] ⟨#[]⟩).map Value.string)

set_option maxHeartbeats 2000000 in
set_option maxRecDepth 20000 in
theorem split_any (s : ByteArray) (w : World) (hs : s.size ≤ 100000) :
    Calls Tryd.prog 49 #[.string s] w (SplPost s w) := by
  obtain ⟨i0, hi, hz0, hz1, hz2⟩ := info_parts info9
  go_enter Tryd.func49, Tryd.ntmps49
  go_wp2_with fail
  go_loopw [3, 4, 5] (fun v d t wr => ∃ (j : Nat) (out : List ByteArray) (wd : ByteArray), t = .int .i64 j ∧ j ≤ s.size ∧ d = .string wd ∧ wd.size ≤ j ∧ out.length ≤ j ∧ wr.ownsRow w.heap.size 9 1 v out.length (out.map Value.string) ∧ Below w.heap.size w wr ∧ Hid (splR s j out wd = splR s 0 [] ⟨#[]⟩)) (fun _ _ t _ => s.size - (intOf t).toNat)
  case atStart => exact ⟨0, [], ⟨#[]⟩, rfl, Nat.zero_le _, rfl, by decide, Nat.zero_le _, World.ownsRow_lit _ _ _ (Nat.le_refl _) (by decide) rfl, (Below.refl _ _).alloc (Nat.le_refl _) _, Lib.hid rfl⟩
  case round =>
    obtain ⟨j, out, wd, rfl, hj, rfl, hwd, hout, hown, hbr, HJ⟩ := hrel
    have HO := Lib.hid hown; have HBR := Lib.hid hbr; clear hown hbr
    by_cases hlt : j < s.size
    · have hst := splR_step (out := out) (wd := wd) hlt
      obtain ⟨c, hc⟩ : ∃ c, s[j] = c := ⟨_, rfl⟩
      rw [hc] at hst
      have hex : (s.extract j (j + 1)).size = 1 := by rw [extract_size' (by omega) (by omega)]; omega
      by_cases h32 : c = 32
      · rw [if_pos h32] at hst
        have f1 : ((c.toNat : Int) != 32) = false := by subst h32; rfl
        have f2 : ((c.toNat : Int) == 32) = true := by subst h32; rfl
        clear h32
        by_cases hwe : wd.toList = []
        · rw [if_pos hwe] at hst
          have HST := Lib.hid (hst.symm.trans HJ.out); clear hst
          have g2 : (!wd.toList.isEmpty) = false := by rw [hwe]; rfl
          go_wp2_with fail
          go_roundw
          case rel => exact ⟨j + 1, out, wd, by go_num, by omega, rfl, by omega, by omega, HO.out, HBR.out, HST⟩
          case measure => simp [intOf]; omega
        · rw [if_neg hwe] at hst
          have HST := Lib.hid (hst.symm.trans HJ.out); clear hst
          have g2 : (!wd.toList.isEmpty) = true := by simpa using hwe
          go_wp2_with (at_builtin; refine wpList_append_own _ rfl (.tmp 39) (.tmp 41) 39 rfl w.heap.size 9 i0 _ 1 16 Tryd.underlying39 hi hz0 hz1 hz2 rfl (by decide) _ out.length (out.map Value.string) rfl (HO.out.alloc _) ⟨wr.heap.size, 0, none⟩ 1 1 [.string wd] rfl rfl ?cD1 ?cD2 ?cD3 ?cD4 ?cD5 ?_)
          case cD1 => exact new_cells _ _ _ _ (by simp)
          case cD2 => simp [Value.oneCell']
          case cD3 => unfold maxLen; omega
          case cD4 => omega
          case cD5 => have := HBR.out.size; simp; omega
          intro v' w3 hown3 hg3 _
          have hrow := HO.out.lt
          have hb3 : Below w.heap.size w w3 := (HBR.out.alloc HBR.out.size _).grown hg3 (by have := HBR.out.size; simp; omega) (fun k hk => (hrow k hk).1)
          have HO3 := Lib.hid hown3; have HB3 := Lib.hid hb3
          clear hown3 hg3 hrow hb3
          go_wp2_with fail
          go_roundw
          case rel => exact ⟨j + 1, out ++ [wd], ⟨#[]⟩, by go_num, by omega, rfl, Nat.zero_le _, by simp; omega, by rw [List.map_append, List.length_append]; exact HO3.out, HB3.out, HST⟩
          case measure => simp [intOf]; omega
      · rw [if_neg h32] at hst
        have f1 : ((c.toNat : Int) != 32) = true := by
          rw [bne_iff_ne]; intro h; exact h32 (UInt8.toNat_inj.1 (by show c.toNat = 32; omega))
        have f2 : ((c.toNat : Int) == 32) = false := by
          rw [beq_eq_false_iff_ne]; intro h; exact h32 (UInt8.toNat_inj.1 (by show c.toNat = 32; omega))
        clear h32
        have g1 : ¬ (wd ++ s.extract j (j + 1)).toList = [] := by
          rw [ByteArray.toList_eq]; intro h
          have h2 := congrArg List.length h
          have e2 : (wd ++ s.extract j (j + 1)).data.toList.length = (wd ++ s.extract j (j + 1)).size := rfl
          rw [e2, ByteArray.size_append, hex] at h2
          simp at h2
        have g2 : (!(wd ++ s.extract j (j + 1)).toList.isEmpty) = true := by simpa using g1
        have hxz : (wd ++ s.extract j (j + 1)).size ≤ j + 1 := by rw [ByteArray.size_append, hex]; omega
        by_cases hl : j + 1 = s.size
        · rw [if_pos hl] at hst
          have HST := Lib.hid (hst.symm.trans HJ.out); clear hst
          have g3 : ((j : Int) == (s.size : Int) - 1) = true := by rw [beq_iff_eq]; omega
          have hl2 : j + 1 ≤ s.size := by omega
          have HXZ := Lib.hid hxz
          clear hl hxz hex
          go_wp2_with (at_builtin; refine wpList_append_own _ rfl (.tmp 39) (.tmp 41) 39 rfl w.heap.size 9 i0 _ 1 16 Tryd.underlying39 hi hz0 hz1 hz2 rfl (by decide) _ out.length (out.map Value.string) rfl (HO.out.alloc _) ⟨wr.heap.size, 0, none⟩ 1 1 [.string (wd ++ s.extract j (j + 1))] rfl rfl ?cA1 ?cA2 ?cA3 ?cA4 ?cA5 ?_)
          case cA1 => exact new_cells _ _ _ _ (by simp)
          case cA2 => simp [Value.oneCell']
          case cA3 => unfold maxLen; omega
          case cA4 => omega
          case cA5 => have := HBR.out.size; simp; omega
          intro v' w3 hown3 hg3 _
          have hrow := HO.out.lt
          have hb3 : Below w.heap.size w w3 := (HBR.out.alloc HBR.out.size _).grown hg3 (by have := HBR.out.size; simp; omega) (fun k hk => (hrow k hk).1)
          have HO3 := Lib.hid hown3; have HB3 := Lib.hid hb3
          clear hown3 hg3 hrow hb3
          go_wp2_with fail
          go_roundw
          case rel => exact ⟨j + 1, out ++ [(wd ++ s.extract j (j + 1))], ⟨#[]⟩, by go_num, by omega, rfl, Nat.zero_le _, by simp; omega, by rw [List.map_append, List.length_append]; exact HO3.out, HB3.out, HST⟩
          case measure => simp [intOf]; omega
        · rw [if_neg hl] at hst
          have HST := Lib.hid (hst.symm.trans HJ.out); clear hst
          have g3 : ((j : Int) == (s.size : Int) - 1) = false := by rw [beq_eq_false_iff_ne]; omega
          have hl2 : j + 1 < s.size := by omega
          have HXZ := Lib.hid hxz
          clear hl hxz hex
          go_wp2_with fail
          go_roundw
          case rel => exact ⟨j + 1, out, wd ++ s.extract j (j + 1), by go_num, by omega, rfl, HXZ.out, by omega, HO.out, HBR.out, HST⟩
          case measure => simp [intOf]; omega
    · have hend := splR_end (out := out) (wd := wd) hlt
      have HST := Lib.hid (hend.symm.trans HJ.out); clear hend
      go_wp2_with fail
      go_ret
      exact ⟨HBR.out, _, rfl, by rw [← HST.out]; exact HO.out⟩
end Go.Proofs.YthhkjjdhecpmlaaDoor
