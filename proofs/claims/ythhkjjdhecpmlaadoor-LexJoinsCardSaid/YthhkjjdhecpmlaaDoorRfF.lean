/-
  Package girandoleref01: All, for every text of at most 4000 bytes.
-/
import Derived.Test.YthhkjjdhecpmlaaDoorRfE
namespace Go.Proofs.YthhkjjdhecpmlaaDoor
open Go.RowKit
theorem info35 : (Tryd.prog.info? 35).map (fun i => (i.zero, i.size, i.bytes)) = some (some (.agg #[.int .i64 0, .int .i64 0, .string ⟨#[]⟩, .int .u64 0]), 4, 40) := by kernel_rfl
/-- What the document's All says. -/
def RefPost (s : ByteArray) (w : World) (e : Ending) (w' : World) : Prop :=
  Below w.heap.size w w' ∧
  match lexR s (skipN s 0) [] with
  | .inl (k, er) => e = .returned (.tuple #[.slice none 0 0, .int .i64 er, .int .i64 k])
  | .inr l => ∃ v, e = .returned (.tuple #[v, .int .i64 0, .int .i64 0]) ∧ w'.ownsRow w.heap.size 35 4 v l.length (tokCells l)
theorem refSkip_at (s : ByteArray) (k : Nat) (a : Int) (ha : a = k) (w : World) (hs : s.size ≤ 100000) (hk : k ≤ s.size) :
    Calls Tryd.prog 47 #[.string s, .int .i64 a] w fun e w' => e = .returned (.int .i64 (skipN s k)) ∧ w = w' := by
  subst ha; exact refSkip_any s k w hs hk
set_option maxHeartbeats 2000000 in
set_option maxRecDepth 20000 in
theorem refAll_any (s : ByteArray) (w : World) (hs : s.size ≤ 4000) :
    Calls Tryd.prog 14 #[.string s] w (RefPost s w) := by
  obtain ⟨i0, hi, hz0, hz1, hz2⟩ := info_parts info35
  have hsk := skipN_ge (s := s) (k := 0) (by omega)
  go_enter Tryd.func14, Tryd.ntmps14
  go_wp2_with fail
  refine (refSkip_any s 0 _ (by omega) (by omega)).mono ?_
  rintro x w' ⟨rfl, rfl⟩
  generalize hk0 : skipN s 0 = k0 at *
  have HK0 := Lib.hid hk0; clear hk0
  go_wp2_with fail
  go_loopw [5, 6] (fun v t wr => ∃ (j : Nat) (acc : List Tk), t = .int .i64 j ∧ j ≤ s.size ∧ acc.length ≤ j ∧ wr.ownsRow w.heap.size 35 4 v acc.length (tokCells acc) ∧ Below w.heap.size w wr ∧ Hid (lexR s j acc = lexR s k0 [])) (fun _ t _ => s.size - (intOf t).toNat)
  case atStart => exact ⟨k0, [], rfl, hsk.2, Nat.zero_le _, World.ownsRow_lit _ _ _ (Nat.le_refl _) (by decide) rfl, (Below.refl _ _).alloc (Nat.le_refl _) _, Lib.hid rfl⟩
  case round =>
    obtain ⟨j, acc, rfl, hj, hac, hown, hbr, HJ⟩ := hrel
    have HO := Lib.hid hown; have HBR := Lib.hid hbr; clear hown hbr
    by_cases hlt : j < s.size
    · obtain ⟨T, er, hT⟩ : ∃ T er, nextT s j s[j] = (T, er) := ⟨_, _, rfl⟩
      have hone := fun w => one_any s j w hs hlt
      rw [hT] at hone
      have HONE := Lib.hid hone; clear hone
      by_cases he : er = 0
      · subst he
        have hst : Stands s j T := by have := nextT_ok hlt (by rw [hT]); rw [hT] at this; exact this
        have hgo := lexR_go (acc := acc) hlt hT
        have HGO := Lib.hid (hgo.symm.trans HJ.out); clear hT hgo
        have h1 : 1 ≤ T.text.size := hst.2.1
        have h2 : j + T.text.size ≤ s.size := hst.2.2.1
        have hq := skipN_ge (s := s) (k := j + T.text.size) h2
        clear hst
        go_wp2_with fail
        refine (HONE.out _).mono ?_
        rintro x w2 ⟨hb2, tk, nx, rfl, hnx⟩
        obtain ⟨ht', hnx'⟩ := hnx rfl
        have ht'' : tk = T := ht'
        have hnx2 : nx = ((j + T.text.size : Nat) : Int) := hnx'
        clear ht' hnx' hnx
        subst ht''
        have HNX := Lib.hid hnx2; clear hnx2
        have HO2 := Lib.hid (ownsRow_below HO.out hb2)
        have HB2 := Lib.hid (HBR.out.trans (hb2.mono HBR.out.size))
        clear hb2
        obtain ⟨kd, ps, tx, nm⟩ := tk
        go_wp2_with (at_builtin; refine wpList_append_own _ rfl (.tmp 31) (.tmp 33) 30 rfl w.heap.size 35 i0 _ 4 40 Tryd.underlying30 hi hz0 hz1 hz2 rfl (by decide) _ acc.length (tokCells acc) rfl ((HO2.out.alloc _).alloc _) ⟨w2.heap.size + 1, 0, none⟩ 1 1 [.int .i64 kd, .int .i64 ps, .string tx, .int .u64 nm] rfl rfl ?c1 ?c2 ?c3 ?c4 ?c5 ?_)
        case c1 => exact new_cells _ _ _ _ (by simp)
        case c2 => simp [Value.oneCell']
        case c3 => unfold maxLen; omega
        case c4 => omega
        case c5 => have := HB2.out.size; simp; omega
        intro v' w3 hown3 hg3 _
        have hrow := HO2.out.lt
        have hz2w : w.heap.size ≤ w2.heap.size := HB2.out.size
        have hb3 : Below w.heap.size w w3 := (((HB2.out.alloc hz2w _).alloc (by simp; omega) _).grown hg3 (by simp; omega) (fun k hk => (hrow k hk).1))
        have HO3 := Lib.hid hown3; have HB3 := Lib.hid hb3; have HZ3 := Lib.hid hz2w
        clear hown3 hg3 hrow hb3 hz2w
        go_wp2_with fail
        refine (refSkip_at s (j + tx.size) _ HNX.out _ (by omega) h2).mono ?_
        rintro x w' ⟨rfl, rfl⟩
        generalize hkk : skipN s (j + tx.size) = kk at *
        clear hkk
        go_wp2_with fail
        go_roundw
        case rel => exact ⟨kk, acc ++ [⟨kd, ps, tx, nm⟩], rfl, by omega, by simp; omega, by rw [tokCells_append, List.length_append]; exact HO3.out, HB3.out, HGO⟩
        case measure => simp [intOf]; omega
      · have hbad := lexR_bad (acc := acc) hlt hT he
        have HGO := Lib.hid (hbad.symm.trans HJ.out); clear hT hbad
        have hne : (er != 0) = true := by simpa using he
        clear he
        go_wp2_with fail
        refine (HONE.out _).mono ?_
        rintro x w2 ⟨hb2, tk, nx, rfl, hnx⟩
        clear hnx
        have HB2 := Lib.hid (HBR.out.trans (hb2.mono HBR.out.size))
        clear hb2
        go_wp2_with fail
        go_ret3
        refine ⟨HB2.out.alloc (HB2.out.size) _, ?_⟩
        rw [HK0.out, ← HGO.out]
        rfl
    · have hend := lexR_end (acc := acc) hj hlt
      have HGO := Lib.hid (hend.symm.trans HJ.out); clear hend
      go_wp2_with (at_builtin; refine wpList_append_own _ rfl (.tmp 38) (.tmp 42) 30 rfl w.heap.size 35 i0 _ 4 40 Tryd.underlying30 hi hz0 hz1 hz2 rfl (by decide) _ acc.length (tokCells acc) rfl (HO.out.alloc _) ⟨wr.heap.size, 0, none⟩ 1 1 [.int .i64 5, .int .i64 s.size, .string ⟨#[]⟩, .int .u64 0] rfl rfl ?c1 ?c2 ?c3 ?c4 ?c5 ?_)
      case c1 => exact new_cells _ _ _ _ (by simp)
      case c2 => simp [Value.oneCell']
      case c3 => unfold maxLen; omega
      case c4 => omega
      case c5 => have := HBR.out.size; simp; omega
      intro v' w3 hown3 hg3 _
      have hrow := HO.out.lt
      have hzr := HBR.out.size
      have hb3 : Below w.heap.size w w3 := ((HBR.out.alloc hzr _).grown hg3 (by simp; omega) (fun k hk => (hrow k hk).1))
      have HB3 := Lib.hid hb3
      have HO3 := Lib.hid hown3
      clear hown3 hg3 hrow hzr hb3
      go_wp2_with fail
      go_ret3
      refine ⟨HB3.out, ?_⟩
      rw [HK0.out, ← HGO.out]
      refine ⟨v', rfl, ?_⟩
      rw [List.length_append, tokCells_append]
      exact HO3.out
end Go.Proofs.YthhkjjdhecpmlaaDoor
