/-
  Package lex: All, for every text of at most 4000 bytes.
-/
import Derived.Test.YthhkjjdhecpmlaaDoorLxI
namespace Go.Proofs.YthhkjjdhecpmlaaDoor
open Go.RowKit
set_option linter.unusedVariables false
set_option linter.unusedSimpArgs false

theorem info36 : (Tryd.prog.info? 36).map (fun i => (i.zero, i.size, i.bytes)) = some (some (.agg #[.int .i64 0, .int .i64 0, .string ⟨#[]⟩, .int .u64 0]), 4, 40) := by kernel_rfl

theorem new_cells (w : World) (cs : Array Value) (T b : Nat) (hb : w.heap.size = b) : ∀ (j : Nat) (u : Value), cs.toList[j]? = some u → (w.alloc (.cells cs T)).cell? ((⟨b, 0, none⟩ : Addr).add j) = some u := by
  intro j u hu
  subst hb
  have hadd : (⟨w.heap.size, 0, none⟩ : Addr).add j = ⟨w.heap.size, j, none⟩ := by unfold Addr.add; split <;> simp_all
  rw [hadd]
  simpa using hu
theorem skip_at (s : ByteArray) (k : Nat) (a : Int) (ha : a = k) (w : World) (hs : s.size ≤ 100000) (hk : k ≤ s.size) :
    Calls Tryd.prog 45 #[.string s, .int .i64 a] w fun e w' => e = .returned (.int .i64 (skipN s k)) ∧ w = w' := by
  subst ha; exact skip_any s k w hs hk
theorem grown_cell {w w' : World} {row : Option Nat} (hg : w.grownBy w' row) {b o : Nat} {v : Value} (hb : b < w.heap.size) (hne : some b ≠ row) (h : w.cell? ⟨b, o, none⟩ = some v) : w'.cell? ⟨b, o, none⟩ = some v := by
  rw [← h]; exact World.cell?_of_block (w := w) (hg.block b hb hne)
theorem cell_after {w : World} {b o : Nat} {v : Value} {X : Obj} (hb : b < w.heap.size) (h : w.cell? ⟨b, o, none⟩ = some v) : (w.alloc X).cell? ⟨b, o, none⟩ = some v := by
  rw [← h]; exact (((Below.refl w.heap.size w).alloc (Nat.le_refl _) X).cell (p := ⟨b, o, none⟩) hb)
theorem ownsRow_other {w : World} {base e size n b i : Nat} {v u : Value} {xs : List Value} (h : w.ownsRow base e size v n xs) (hb : b < base) : (w.setCell ⟨b, i, none⟩ u).ownsRow base e size v n xs := by
  refine ⟨h.1, ?_⟩
  rcases h.2 with hn | ⟨g, cap, cur, hv, hbg, hg, rest⟩
  · exact .inl hn
  · exact .inr ⟨g, cap, cur, hv, hbg, (Below.heap_setCell _ _ _ _ (by simp; omega)).trans hg, rest⟩
theorem ownsRow_base {w : World} {base base' e size n : Nat} {v : Value} {xs : List Value} (h : w.ownsRow base e size v n xs) (hb : base' ≤ base) : w.ownsRow base' e size v n xs := by
  refine ⟨h.1, ?_⟩
  rcases h.2 with hn | ⟨g, cap, cur, hv, hbg, rest⟩
  · exact .inl hn
  · exact .inr ⟨g, cap, cur, hv, by omega, rest⟩
theorem two_cells {w : World} {b : Nat} {u v : Value} (hb : b < w.heap.size) (h0 : w.cell? ⟨b, 0, none⟩ = some u) (h1 : w.cell? ⟨b, 1, none⟩ = some v) (x y : Value) (X : Obj) :
    (((w.setCell ⟨b, 0, none⟩ x).setCell ⟨b, 1, none⟩ y).alloc X).cell? ⟨b, 0, none⟩ = some x ∧ (((w.setCell ⟨b, 0, none⟩ x).setCell ⟨b, 1, none⟩ y).alloc X).cell? ⟨b, 1, none⟩ = some y := by
  constructor
  · refine cell_after ?_ ?_
    · rw [World.size_setCell, World.size_setCell]; exact hb
    · rw [World.cell?_setCell_other _ _ _ _ (by simp)]; exact World.cell?_setCell_same _ _ _ h0
  · refine cell_after ?_ ?_
    · rw [World.size_setCell, World.size_setCell]; exact hb
    · exact World.cell?_setCell_same _ _ _ ((World.cell?_setCell_other _ _ _ _ (by simp)).trans h1)
/-- What All says. -/
def LexPost (s : ByteArray) (w : World) (e : Ending) (w' : World) : Prop :=
  Below w.heap.size w w' ∧
  match lexR s (skipN s 0) [] with
  | .inl (k, er) => e = .returned (.tuple #[.slice none 0 0, .agg #[.int .i64 k, .int .i64 er]])
  | .inr l => ∃ v, e = .returned (.tuple #[v, .agg #[.int .i64 0, .int .i64 0]]) ∧ w'.ownsRow w.heap.size 36 4 v l.length (tokCells l)

set_option maxHeartbeats 2000000 in
set_option maxRecDepth 20000 in
theorem all_any (s : ByteArray) (w : World) (hs : s.size ≤ 4000) (hr : Rng w) :
    Calls Tryd.prog 13 #[.string s] w (LexPost s w) := by
  have HR := Lib.hid hr; clear hr
  obtain ⟨i0, hi, hz0, hz1, hz2⟩ := info_parts info36
  have hsk := skipN_ge (s := s) (k := 0) (by omega)
  go_enter Tryd.func13, Tryd.ntmps13
  go_wp2_with fail
  refine (skip_any s 0 _ (by omega) (by omega)).mono ?_
  rintro x w' ⟨rfl, rfl⟩
  generalize hk0 : skipN s 0 = k0 at *
  have HK0 := Lib.hid hk0; clear hk0
  generalize hW1 : w.alloc _ = W1
  have hz : W1.heap.size = w.heap.size + 1 := by rw [← hW1]; simp
  have hbW : Below w.heap.size w W1 := by rw [← hW1]; exact (Below.refl _ _).alloc (Nat.le_refl _) _
  have c0 : W1.cell? ⟨w.heap.size, 0, none⟩ = some (.int .i64 0) := by rw [← hW1]; simp
  have c1 : W1.cell? ⟨w.heap.size, 1, none⟩ = some (.int .i64 0) := by rw [← hW1]; simp
  have z0 : ∀ o, W1.frozen? ⟨w.heap.size, o, none⟩ = false := fun o => by rw [← hW1]; simp
  have HBW := Lib.hid hbW; have HZ := Lib.hid hz; have HC0 := Lib.hid c0; have HC1 := Lib.hid c1; have HZ0 := Lib.hid z0
  clear hbW hz c0 c1 z0 hW1
  go_wp2_with fail
  go_loopw [4, 5] (fun v t wr => ∃ (j : Nat) (acc : List Tk), t = .int .i64 j ∧ j ≤ s.size ∧ acc.length ≤ j ∧ wr.ownsRow (w.heap.size + 1) 36 4 v acc.length (tokCells acc) ∧ Below W1.heap.size W1 wr ∧ Hid (lexR s j acc = lexR s k0 [])) (fun _ t _ => s.size - (intOf t).toNat)
  case atStart => exact ⟨k0, [], rfl, hsk.2, Nat.zero_le _, World.ownsRow_nil _ _ _ _, Below.refl _ _, Lib.hid rfl⟩
  case round =>
    obtain ⟨j, acc, rfl, hj, hac, hown, hbr, HJ⟩ := hrel
    have HO := Lib.hid hown; have HBR := Lib.hid hbr; clear hown hbr
    by_cases hlt : j < s.size
    · obtain ⟨T, er, hT⟩ : ∃ T er, nextT s j s[j] = (T, er) := ⟨_, _, rfl⟩
      by_cases he : er = 0
      · subst he
        have hst : Stands s j T := by have := nextT_ok hlt (by rw [hT]); rw [hT] at this; exact this
        have hgo := lexR_go (acc := acc) hlt hT
        have HT := Lib.hid hT; have HGO := Lib.hid (hgo.symm.trans HJ.out); clear hT hgo
        have h1 : 1 ≤ T.text.size := hst.2.1
        have h2 : j + T.text.size ≤ s.size := hst.2.2.1
        have hq := skipN_ge (s := s) (k := j + T.text.size) h2
        clear hst
        go_wp2_with fail
        refine (next_any s j _ (by omega) hlt (HR.out.below (HBW.out.trans (HBR.out.mono (by have := HZ.out; omega)))) T 0 HT.out).mono ?_
        rintro x w2 ⟨rfl, hb2⟩
        have HO2 := Lib.hid (ownsRow_below HO.out hb2)
        have HB2 := Lib.hid (HBR.out.trans (hb2.mono HBR.out.size))
        clear hb2
        obtain ⟨kd, ps, tx, nm⟩ := T
        go_wp2_with (at_builtin; refine wpList_append_own _ rfl (.tmp 29) (.tmp 31) 24 rfl (w.heap.size + 1) 36 i0 _ 4 40 Tryd.underlying24 hi hz0 hz1 hz2 rfl (by decide) _ acc.length (tokCells acc) rfl ((HO2.out.alloc _).alloc _) ⟨w2.heap.size + 1, 0, none⟩ 1 1 [.int .i64 kd, .int .i64 ps, .string tx, .int .u64 nm] rfl rfl ?c1 ?c2 ?c3 ?c4 ?c5 ?_)
        case c1 => exact new_cells _ _ _ _ (by simp)
        case c2 => simp [Value.oneCell']
        case c3 => unfold maxLen; omega
        case c4 => omega
        case c5 => have := HB2.out.size; have := HZ.out; simp; omega
        intro v' w3 hown3 hg3 _
        have hrow := HO2.out.lt
        have hz2w : W1.heap.size ≤ w2.heap.size := HB2.out.size
        have hzz := HZ.out
        have hb3 : Below W1.heap.size W1 w3 := (((HB2.out.alloc hz2w _).alloc (by simp; omega) _).grown hg3 (by simp; omega) (fun k hk => by have := hrow k hk; omega))
        have d2 : w3.cell? ⟨w2.heap.size, 2, none⟩ = some (.string tx) := by
          refine grown_cell hg3 (by simp; omega) (fun h => ?_) ?_
          · have := hrow _ h.symm; omega
          · exact cell_after (by simp) (by simp)
        have HO3 := Lib.hid hown3; have HB3 := Lib.hid hb3; have HZ3 := Lib.hid hz2w
        clear hown3 hg3 hrow hb3 hzz hz2w
        go_wp2_with fail
        refine (skip_at s (j + tx.size) _ (by simp) _ (by omega) h2).mono ?_
        rintro x w' ⟨rfl, rfl⟩
        generalize hkk : skipN s (j + tx.size) = kk at *
        clear hkk
        go_wp2_with fail
        go_roundw
        case rel => exact ⟨kk, acc ++ [⟨kd, ps, tx, nm⟩], rfl, by omega, by simp; omega, by rw [tokCells_append, List.length_append]; exact HO3.out, HB3.out, HGO⟩
        case measure => simp [intOf]; omega
      · have hbad := lexR_bad (acc := acc) hlt hT he
        have HT := Lib.hid hT; have HGO := Lib.hid (hbad.symm.trans HJ.out); clear hT hbad
        have hne : (er != 0) = true := by simpa using he
        clear he
        go_wp2_with fail
        refine (next_any s j _ (by omega) hlt (HR.out.below (HBW.out.trans (HBR.out.mono (by have := HZ.out; omega)))) T er HT.out).mono ?_
        rintro x w2 ⟨rfl, hb2⟩
        have hb3 : Below W1.heap.size W1 w2 := HBR.out.trans (hb2.mono HBR.out.size)
        have hzz := HZ.out
        have e0 := (hb3.cell (p := ⟨w.heap.size, 0, none⟩) (by simp; omega)).trans HC0.out
        have e1 := (hb3.cell (p := ⟨w.heap.size, 1, none⟩) (by simp; omega)).trans HC1.out
        have ez : ∀ o, w2.frozen? ⟨w.heap.size, o, none⟩ = false := fun o => (hb3.frozen (p := ⟨w.heap.size, o, none⟩) (by simp; omega)).trans (HZ0.out o)
        have hsz2 : w.heap.size < w2.heap.size := by have := hb3.size; omega
        have hb4 : Below w.heap.size w w2 := HBW.out.trans (hb3.mono (by omega))
        have HB4 := Lib.hid hb4
        clear hb2 hb3 hzz hb4
        obtain ⟨kd, ps, tx, nm⟩ := T
        go_wp2_with fail
        refine bodyPost_ret (v := .tuple #[.slice none 0 0, .agg #[.int .i64 j, .int .i64 er]]) (by simp [results, Tryd.results13, go_sem, (two_cells hsz2 e0 e1 _ _ _).1, (two_cells hsz2 e0 e1 _ _ _).2]) rfl ?_
        refine ⟨((HB4.out.setCell (by simp) _).setCell (by simp) _).alloc (by simp; omega) _, ?_⟩
        rw [HK0.out, ← HGO.out]
    · have hend := lexR_end (acc := acc) hj hlt
      have HGO := Lib.hid (hend.symm.trans HJ.out); clear hend
      go_wp2_with (at_builtin; refine wpList_append_own _ rfl (.tmp 40) (.tmp 44) 24 rfl (w.heap.size + 1) 36 i0 _ 4 40 Tryd.underlying24 hi hz0 hz1 hz2 rfl (by decide) _ acc.length (tokCells acc) rfl (HO.out.alloc _) ⟨wr.heap.size, 0, none⟩ 1 1 [.int .i64 5, .int .i64 s.size, .string ⟨#[]⟩, .int .u64 0] rfl rfl ?c1 ?c2 ?c3 ?c4 ?c5 ?_)
      case c1 => exact new_cells _ _ _ _ (by simp)
      case c2 => simp [Value.oneCell']
      case c3 => unfold maxLen; omega
      case c4 => omega
      case c5 => have := HBR.out.size; have := HZ.out; simp; omega
      intro v' w3 hown3 hg3 _
      have hrow := HO.out.lt
      have hzz := HZ.out
      have hzr := HBR.out.size
      have hb3 : Below W1.heap.size W1 w3 := ((HBR.out.alloc hzr _).grown hg3 (by simp; omega) (fun k hk => by have := hrow k hk; omega))
      have e0 := (hb3.cell (p := ⟨w.heap.size, 0, none⟩) (by simp; omega)).trans HC0.out
      have e1 := (hb3.cell (p := ⟨w.heap.size, 1, none⟩) (by simp; omega)).trans HC1.out
      have ez : ∀ o, w3.frozen? ⟨w.heap.size, o, none⟩ = false := fun o => (hb3.frozen (p := ⟨w.heap.size, o, none⟩) (by simp; omega)).trans (HZ0.out o)
      have hsz2 : w.heap.size < w3.heap.size := by have := hb3.size; omega
      have HB4 := Lib.hid (HBW.out.trans (hb3.mono (by omega)))
      have HO3 := Lib.hid hown3
      clear hown3 hg3 hrow hzz hzr hb3
      go_wp2_with fail
      refine bodyPost_ret (v := .tuple #[v', .agg #[.int .i64 0, .int .i64 0]]) (by simp [results, Tryd.results13, go_sem, e0, e1]) rfl ?_
      refine ⟨(HB4.out.setCell (by simp) _).setCell (by simp) _, ?_⟩
      rw [HK0.out, ← HGO.out]
      refine ⟨v', rfl, ?_⟩
      rw [List.length_append, tokCells_append]
      exact ownsRow_base (ownsRow_other (ownsRow_other HO3.out (Nat.lt_succ_self _)) (Nat.lt_succ_self _)) (Nat.le_succ _)
end Go.Proofs.YthhkjjdhecpmlaaDoor
