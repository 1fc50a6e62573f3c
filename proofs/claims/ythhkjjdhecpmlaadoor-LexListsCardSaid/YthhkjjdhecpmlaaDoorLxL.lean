/-
  Package girandoleref01: Words, Signs; girandolelaw01.LexLists, walked: whatever the order in which Go reads.
-/
import Derived.Test.YthhkjjdhecpmlaaDoorLxM
import Derived.Deep.RegionWith
import Derived.Deep.RegionHeld3
import Derived.Laws.BitsLemmas
import Derived.IntWalk
namespace Go.Proofs.YthhkjjdhecpmlaaDoor
open Go.RowKit
def wordS : ByteArray := ⟨#[110, 111, 100, 101, 32, 114, 101, 116, 117, 114, 110, 115, 32, 118, 97, 114, 32, 108, 101, 116, 32, 116, 101, 108, 32, 105, 110, 116, 32, 98, 111, 111, 108, 32, 102, 117, 116, 117, 114, 101, 32, 119, 104, 101, 110, 32, 110, 111, 116, 32, 97, 110, 100, 32, 111, 114, 32, 120, 111, 114, 32, 105, 102, 32, 116, 104, 101, 110, 32, 101, 108, 115, 101, 32, 112, 114, 101, 32, 102, 98, 121, 32, 109, 101, 114, 103, 101, 32, 97, 115, 121, 110, 99, 32, 97, 119, 97, 105, 116, 32, 97, 102, 116, 101, 114, 32, 116, 114, 117, 101, 32, 102, 97, 108, 115, 101, 32, 109, 111, 100]⟩
def signS : ByteArray := ⟨#[60, 62, 32, 60, 61, 32, 62, 61, 32, 45, 62, 32, 40, 32, 41, 32, 44, 32, 59, 32, 58, 32, 61, 32, 60, 32, 62, 32, 43, 32, 45, 32, 42, 32, 47]⟩
theorem split_words : splR wordS 0 [] ⟨#[]⟩ = wordL := by kernel_rfl
theorem split_signs : splR signS 0 [] ⟨#[]⟩ = signL := by kernel_rfl
/-- A row of these texts, new. -/
def Row (l : List ByteArray) (w : World) (e : Ending) (w' : World) : Prop :=
  ∃ b cap, e = .returned (.slice (some ⟨b, 0, none⟩) l.length cap) ∧ Texts w' b l ∧ Below w.heap.size w w' ∧ w.heap.size ≤ b ∧ b < w'.heap.size
theorem row_of {l : List ByteArray} (hl : l ≠ []) {w w' : World} {v : Value} (h : w'.ownsRow w.heap.size 9 1 v l.length (l.map Value.string)) (hb : Below w.heap.size w w') : Row l w (.returned v) w' := by
  rcases h.2 with ⟨_, h0⟩ | ⟨g, cap, cur, hv, hbg, hg, hrest⟩
  · exact absurd (List.length_eq_zero_iff.1 h0) hl
  · subst hv
    refine ⟨g, cap, rfl, fun j hj => ?_, hb, hbg, (Array.getElem?_eq_some_iff.1 hg).1⟩
    rw [h.cellAt j (by omega)]
    simp [List.getD, hj]
set_option maxHeartbeats 400000 in
set_option maxRecDepth 20000 in
theorem refWords_any (w : World) : Calls Tryd.prog 17 #[] w (Row wordL w) := by
  go_enter Tryd.func17, Tryd.ntmps17
  go_wp2_with fail
  refine (split_any wordS _ (by decide)).mono ?_
  rintro x w1 ⟨hb1, v, rfl, ho⟩
  rw [split_words] at ho
  have H := Lib.hid (row_of (by decide) ho hb1); clear ho hb1
  go_wp2_with fail
  go_ret
  exact H.out
set_option maxHeartbeats 400000 in
set_option maxRecDepth 20000 in
theorem refSigns_any (w : World) : Calls Tryd.prog 18 #[] w (Row signL w) := by
  go_enter Tryd.func18, Tryd.ntmps18
  go_wp2_with fail
  refine (split_any signS _ (by decide)).mono ?_
  rintro x w1 ⟨hb1, v, rfl, ho⟩
  rw [split_signs] at ho
  have H := Lib.hid (row_of (by decide) ho hb1); clear ho hb1
  go_wp2_with fail
  go_ret
  exact H.out

theorem wpAnyH_mono {P : Program} {ops : Array Oper} {Q : Exit → Act → World → Prop} {md : Region.Mode} {S S' : World → Prop} (h : ∀ w, S' w → S w) : ∀ (fuel : Nat) (listed : Array Bool) (a : Act) (w : World), wpAnyH P md ops Q S' fuel listed a w → wpAnyH P md ops Q S fuel listed a w
  | 0, _, _, _, hh => hh
  | fuel + 1, _, _, _, hh => ⟨hh.1, fun i hi => wpOp_mono (fun a' w' h' => ⟨h w' h'.1, wpAnyH_mono h fuel _ a' w' h'.2⟩) (hh.2 i hi)⟩
theorem and_low (i : Int) : ∃ n : Nat, n < 65536 ∧ bits .and .i64 i 65535 = (n : Int) := by
  unfold bits
  simp only
  have h : (BitVec.ofInt IntKind.i64.bits i &&& BitVec.ofInt IntKind.i64.bits 65535).toNat < 65536 := by
    rw [BitVec.toNat_and]
    exact Nat.lt_succ_of_le Nat.and_le_right
  exact ⟨_, h, IntWalk.i64_in _ (by omega)⟩
set_option maxHeartbeats 2000000 in
set_option maxRecDepth 20000 in
theorem lexLists_walk (i : Int) (w : World) (hr : Rng w) : Calls Tryd.prog 5 #[.int .i64 i] w fun e w' => e = .returned (.bool true) ∧ Below w.heap.size w w' := by
  have HR := Lib.hid hr; clear hr
  obtain ⟨n, hn, hm⟩ := and_low i
  have hn0 : (0 : Int) ≤ n := by omega
  obtain ⟨d, hd⟩ : ∃ d, n % 25 = d := ⟨_, rfl⟩
  obtain ⟨g, hg⟩ : ∃ g, n % 16 = g := ⟨_, rfl⟩
  have h25 : d < 25 := hd ▸ Nat.mod_lt _ (by omega)
  have h16 : g < 16 := hg ▸ Nat.mod_lt _ (by omega)
  have T25 := Lib.hid (show ((n : Int).tmod 25) = (d : Int) by rw [Int.tmod_eq_emod_of_nonneg (by omega)]; omega)
  have T16 := Lib.hid (show ((n : Int).tmod 16) = (g : Int) by rw [Int.tmod_eq_emod_of_nonneg (by omega)]; omega)
  have W25 := Lib.hid (show IntKind.i64.wrap (d : Int) = (d : Int) from IntWalk.i64_in _ (by omega))
  have W16 := Lib.hid (show IntKind.i64.wrap (g : Int) = (g : Int) from IntWalk.i64_in _ (by omega))
  clear hd hg
  go_enter Tryd.func5, Tryd.ntmps5
  go_wp2_with fail
  refine (awakeLex _ HR.out).mono ?_
  rintro x w1 ⟨rfl, hb1⟩
  go_wp2_with fail
  refine (refWords_any _).mono ?_
  rintro x w2 ⟨b2, cap2, rfl, ht2, hb2, hlo2, hz2⟩
  rw [show wordL.length = 25 from rfl]
  have HT2 := Lib.hid ht2; have HB2 := Lib.hid (hb1.trans (hb2.mono hb1.size)); clear ht2 hb1 hb2
  go_wp2_with fail
  refine (refSigns_any _).mono ?_
  rintro x w3 ⟨b3, cap3, rfl, ht3, hb3, hlo3, hz3⟩
  rw [show signL.length = 16 from rfl]
  have HT2' := Lib.hid (HT2.out.below hb3 hz2); have HT3 := Lib.hid ht3; have HB3 := Lib.hid (HB2.out.trans (hb3.mono HB2.out.size))
  have hz23 : b2 < w3.heap.size := by have := hb3.size; omega
  clear ht3 hb3 HT2 HB2
  go_wp2_with fail
  refine (words_any _).mono ?_
  rintro x w4 ⟨rfl, ht4, hb4, hz4⟩
  have HT24 := Lib.hid (HT2'.out.below hb4 hz23); have HT34 := Lib.hid (HT3.out.below hb4 hz3); have HB4 := Lib.hid (HB3.out.trans (hb4.mono HB3.out.size))
  have hz24 : b2 < w4.heap.size := by omega
  have hz34 : b3 < w4.heap.size := by omega
  clear ht4 hb4 HT2' HT3 HB3
  go_wp2_with fail
  refine (signs_any _).mono ?_
  rintro x w5 ⟨rfl, ht5, hb5, hz5⟩
  have HT25 := Lib.hid (HT24.out.below hb5 hz24); have HT35 := Lib.hid (HT34.out.below hb5 hz34); have HB5 := Lib.hid (HB4.out.trans (hb5.mono HB4.out.size))
  have hz25 : b2 < w5.heap.size := by omega
  have hz35 : b3 < w5.heap.size := by omega
  clear ht5 hb5 HT24 HT34 HB4
  go_wp2_with fail
  obtain ⟨x25, hx⟩ : ∃ x, wordL.getD d ByteArray.empty = x := ⟨_, rfl⟩
  obtain ⟨y16, hy⟩ : ∃ y, signL.getD g ByteArray.empty = y := ⟨_, rfl⟩
  have HX := Lib.hid hx; have HY := Lib.hid hy; clear hx hy
  have r2 : w5.cell? ⟨b2, d, none⟩ = some (.string x25) := by rw [← HX.out]; exact HT25.out _ h25
  have r3 : w5.cell? ⟨b3, g, none⟩ = some (.string y16) := by rw [← HY.out]; exact HT35.out _ h16
  have t25 := T25.out; have t16 := T16.out; have w25 := W25.out; have w16 := W16.out
  have i25 : (d : Int) < 25 := by omega
  have i16 : (g : Int) < 16 := by omega
  have i0 : (0 : Int) ≤ d := by omega
  have i1 : (0 : Int) ≤ g := by omega
  clear hm HR hlo2 hlo3 hz2 hz3 hz23 hz4 hz24 hz34
  refine wp_region_held_drew (S := fun w' => w'.cell? ⟨b2, d, none⟩ = some (.string x25) ∧ w'.cell? ⟨b3, g, none⟩ = some (.string y16) ∧ Below w5.heap.size w5 w') (by kernel_rfl) ⟨r2, r3, (Below.refl _ _).drew⟩ (fun hS1 => ?_)
  refine wpAnyH_take (i := 1) (v := ?v1) rfl (by kernel_rfl) (by kernel_rfl) (by kernel_rfl) (fun _ _ _ h => h) (Or.inl ⟨by rfl, ?y1⟩) hS1 ?r1
  case y1 => (intro w hSw; (try dsimp only at hSw); go_simp; (try with_reducible rfl))
  try simp only [Act.put, List.getElem_toArray, List.getElem_cons_succ, List.getElem_cons_zero, List.setIfInBounds_toArray, List.set_cons_zero, List.set_cons_succ]
  refine wpAnyH_take (i := 2) (v := ?v2) rfl (by kernel_rfl) (by kernel_rfl) (by kernel_rfl) (fun _ _ _ h => h) (Or.inl ⟨by rfl, ?y2⟩) hS1 ?r2
  case y2 => (intro w hSw; (try dsimp only at hSw); go_simp; (try with_reducible rfl))
  try simp only [Act.put, List.getElem_toArray, List.getElem_cons_succ, List.getElem_cons_zero, List.setIfInBounds_toArray, List.set_cons_zero, List.set_cons_succ]
  refine wpAnyH_take (i := 3) (v := ?v3) rfl (by kernel_rfl) (by kernel_rfl) (by kernel_rfl) (fun _ _ _ h => h) (Or.inl ⟨by rfl, ?y3⟩) hS1 ?r3
  case y3 => (intro w hSw; (try dsimp only at hSw); go_simp; (try with_reducible rfl))
  try simp only [Act.put, List.getElem_toArray, List.getElem_cons_succ, List.getElem_cons_zero, List.setIfInBounds_toArray, List.set_cons_zero, List.set_cons_succ]
  refine wpAnyH_take (i := 4) (v := ?v4) rfl (by kernel_rfl) (by kernel_rfl) (by kernel_rfl) (fun _ _ _ h => h) (Or.inl ⟨by rfl, ?y4⟩) hS1 ?r4
  case y4 => (intro w hSw; (try dsimp only at hSw); go_simp; (try with_reducible rfl))
  try simp only [Act.put, List.getElem_toArray, List.getElem_cons_succ, List.getElem_cons_zero, List.setIfInBounds_toArray, List.set_cons_zero, List.set_cons_succ]
  refine wpAnyH_take (i := 7) (v := ?v7) rfl (by kernel_rfl) (by kernel_rfl) (by kernel_rfl) (fun _ _ _ h => h) (Or.inl ⟨by rfl, ?y7⟩) hS1 ?r7
  case y7 => (intro w hSw; (try dsimp only at hSw); go_simp; (try with_reducible rfl))
  try simp only [Act.put, List.getElem_toArray, List.getElem_cons_succ, List.getElem_cons_zero, List.setIfInBounds_toArray, List.set_cons_zero, List.set_cons_succ]
  refine wpAnyH_take (i := 8) (v := ?v8) rfl (by kernel_rfl) (by kernel_rfl) (by kernel_rfl) (fun _ _ _ h => h) (Or.inl ⟨by rfl, ?y8⟩) hS1 ?r8
  case y8 => (intro w hSw; (try dsimp only at hSw); go_simp; (try with_reducible rfl))
  try simp only [Act.put, List.getElem_toArray, List.getElem_cons_succ, List.getElem_cons_zero, List.setIfInBounds_toArray, List.set_cons_zero, List.set_cons_succ]
  refine wpAnyH_take (i := 9) (v := ?v9) rfl (by kernel_rfl) (by kernel_rfl) (by kernel_rfl) (fun _ _ _ h => h) (Or.inl ⟨by rfl, ?y9⟩) hS1 ?r9
  case y9 => (intro w hSw; (try dsimp only at hSw); go_simp; (try with_reducible rfl))
  try simp only [Act.put, List.getElem_toArray, List.getElem_cons_succ, List.getElem_cons_zero, List.setIfInBounds_toArray, List.set_cons_zero, List.set_cons_succ]
  refine wpAnyH_take (i := 10) (v := ?v10) rfl (by kernel_rfl) (by kernel_rfl) (by kernel_rfl) (fun _ _ _ h => h) (Or.inl ⟨by rfl, ?y10⟩) hS1 ?r10
  case y10 => (intro w hSw; (try dsimp only at hSw); go_simp; (try with_reducible rfl))
  try simp only [Act.put, List.getElem_toArray, List.getElem_cons_succ, List.getElem_cons_zero, List.setIfInBounds_toArray, List.set_cons_zero, List.set_cons_succ]
  refine wpAnyH_take (i := 11) (v := ?v11) rfl (by kernel_rfl) (by kernel_rfl) (by kernel_rfl) (fun _ _ _ h => h) (Or.inl ⟨by rfl, ?y11⟩) hS1 ?r11
  case y11 => (intro w hSw; (try dsimp only at hSw); go_simp; (try with_reducible rfl))
  try simp only [Act.put, List.getElem_toArray, List.getElem_cons_succ, List.getElem_cons_zero, List.setIfInBounds_toArray, List.set_cons_zero, List.set_cons_succ]
  refine wpAnyH_take (i := 12) (v := ?v12) rfl (by kernel_rfl) (by kernel_rfl) (by kernel_rfl) (fun _ _ _ h => h) (Or.inl ⟨by rfl, ?y12⟩) hS1 ?r12
  case y12 => (intro w hSw; (try dsimp only at hSw); go_simp; (try with_reducible rfl))
  try simp only [Act.put, List.getElem_toArray, List.getElem_cons_succ, List.getElem_cons_zero, List.setIfInBounds_toArray, List.set_cons_zero, List.set_cons_succ]
  refine wpAnyH_take (i := 13) (v := ?v13) rfl (by kernel_rfl) (by kernel_rfl) (by kernel_rfl) (fun _ _ _ h => h) (Or.inl ⟨by rfl, ?y13⟩) hS1 ?r13
  case y13 => (intro w hSw; (try dsimp only at hSw); go_simp; (try with_reducible rfl))
  try simp only [Act.put, List.getElem_toArray, List.getElem_cons_succ, List.getElem_cons_zero, List.setIfInBounds_toArray, List.set_cons_zero, List.set_cons_succ]
  refine wpAnyH_ready (rs := [0]) (by kernel_rfl) (by simp) ?_
  refine AllReadyH.cons rfl (fun K hK => ?_) AllReadyH.nil
  go_simp
  refine (words_any _).mono ?_
  rintro x w6 ⟨rfl, ht6, hb6, hz6⟩
  have o6 : w6.cell? ⟨w5.heap.size, d, none⟩ = some (.string x25) := by rw [← HX.out]; exact ht6 d h25
  have hb56 : Below w5.heap.size w5 w6 := ((Below.refl w5.heap.size w5).drew).trans hb6
  have q2 : w6.cell? ⟨b2, d, none⟩ = some (.string x25) := (hb56.cell (p := ⟨b2, d, none⟩) hz25).trans r2
  have q3 : w6.cell? ⟨b3, g, none⟩ = some (.string y16) := (hb56.cell (p := ⟨b3, g, none⟩) hz35).trans r3
  have hz6' : w5.heap.size < w6.heap.size := hz6
  have HB56 := Lib.hid hb56
  clear ht6 hb6 hz6
  refine hK.out _ _ ⟨q2, q3, hb56⟩ (fun _ => ?_)
  clear hK K hb56
  try simp only [Act.put, List.getElem_toArray, List.getElem_cons_succ, List.getElem_cons_zero, List.setIfInBounds_toArray, List.set_cons_zero, List.set_cons_succ]
  refine wpAnyH_mono (S' := fun w' => w'.cell? ⟨w5.heap.size, d, none⟩ = some (.string x25) ∧ w'.cell? ⟨b2, d, none⟩ = some (.string x25) ∧ w'.cell? ⟨b3, g, none⟩ = some (.string y16) ∧ Below w6.heap.size w6 w') (fun w' h => ⟨h.2.1, h.2.2.1, HB56.out.trans (h.2.2.2.mono HB56.out.size)⟩) _ _ _ _ ?_
  have hS2 : w6.cell? ⟨w5.heap.size, d, none⟩ = some (.string x25) ∧ w6.cell? ⟨b2, d, none⟩ = some (.string x25) ∧ w6.cell? ⟨b3, g, none⟩ = some (.string y16) ∧ Below w6.heap.size w6 w6 := ⟨o6, q2, q3, Below.refl _ _⟩
  clear hS1
  refine wpAnyH_take (i := 5) (v := ?v5) rfl (by kernel_rfl) (by kernel_rfl) (by kernel_rfl) (fun _ _ _ h => h) (Or.inl ⟨by rfl, ?y5⟩) hS2 ?r5
  case y5 => (intro w hSw; (try dsimp only at hSw); go_simp; (try with_reducible rfl))
  try simp only [Act.put, List.getElem_toArray, List.getElem_cons_succ, List.getElem_cons_zero, List.setIfInBounds_toArray, List.set_cons_zero, List.set_cons_succ]
  refine wpAnyH_take (i := 6) (v := ?v6) rfl (by kernel_rfl) (by kernel_rfl) (by kernel_rfl) (fun _ _ _ h => h) (Or.inl ⟨by rfl, ?y6⟩) hS2 ?r6
  case y6 => (intro w hSw; (try dsimp only at hSw); go_simp; (try with_reducible rfl))
  try simp only [Act.put, List.getElem_toArray, List.getElem_cons_succ, List.getElem_cons_zero, List.setIfInBounds_toArray, List.set_cons_zero, List.set_cons_succ]
  refine wpAnyH_take (i := 14) (v := ?v14) rfl (by kernel_rfl) (by kernel_rfl) (by kernel_rfl) (fun _ _ _ h => h) (Or.inl ⟨by rfl, ?y14⟩) hS2 ?r14
  case y14 => (intro w hSw; (try dsimp only at hSw); go_simp; (try with_reducible rfl))
  try simp only [Act.put, List.getElem_toArray, List.getElem_cons_succ, List.getElem_cons_zero, List.setIfInBounds_toArray, List.set_cons_zero, List.set_cons_succ]
  refine wpAnyH_take (i := 15) (v := ?v15) rfl (by kernel_rfl) (by kernel_rfl) (by kernel_rfl) (fun _ _ _ h => h) (Or.inl ⟨by rfl, ?y15⟩) hS2 ?r15
  case y15 => (intro w hSw; (try dsimp only at hSw); go_simp; (try with_reducible rfl))
  try simp only [Act.put, List.getElem_toArray, List.getElem_cons_succ, List.getElem_cons_zero, List.setIfInBounds_toArray, List.set_cons_zero, List.set_cons_succ]
  refine wpAnyH_take (i := 17) (v := ?v17) rfl (by kernel_rfl) (by kernel_rfl) (by kernel_rfl) (fun _ _ _ h => h) (Or.inl ⟨by rfl, ?y17⟩) hS2 ?r17
  case y17 => (intro w hSw; (try dsimp only at hSw); go_simp; (try with_reducible rfl))
  try simp only [Act.put, List.getElem_toArray, List.getElem_cons_succ, List.getElem_cons_zero, List.setIfInBounds_toArray, List.set_cons_zero, List.set_cons_succ]
  refine wpAnyH_take (i := 18) (v := ?v18) rfl (by kernel_rfl) (by kernel_rfl) (by kernel_rfl) (fun _ _ _ h => h) (Or.inl ⟨by rfl, ?y18⟩) hS2 ?r18
  case y18 => (intro w hSw; (try dsimp only at hSw); go_simp; (try with_reducible rfl))
  try simp only [Act.put, List.getElem_toArray, List.getElem_cons_succ, List.getElem_cons_zero, List.setIfInBounds_toArray, List.set_cons_zero, List.set_cons_succ]
  refine wpAnyH_take (i := 19) (v := ?v19) rfl (by kernel_rfl) (by kernel_rfl) (by kernel_rfl) (fun _ _ _ h => h) (Or.inl ⟨by rfl, ?y19⟩) hS2 ?r19
  case y19 => (intro w hSw; (try dsimp only at hSw); go_simp; (try with_reducible rfl))
  try simp only [Act.put, List.getElem_toArray, List.getElem_cons_succ, List.getElem_cons_zero, List.setIfInBounds_toArray, List.set_cons_zero, List.set_cons_succ]
  refine wpAnyH_take (i := 20) (v := ?v20) rfl (by kernel_rfl) (by kernel_rfl) (by kernel_rfl) (fun _ _ _ h => h) (Or.inl ⟨by rfl, ?y20⟩) hS2 ?r20
  case y20 => (intro w hSw; (try dsimp only at hSw); go_simp; (try with_reducible rfl))
  try simp only [Act.put, List.getElem_toArray, List.getElem_cons_succ, List.getElem_cons_zero, List.setIfInBounds_toArray, List.set_cons_zero, List.set_cons_succ]
  refine wpAnyH_take (i := 23) (v := ?v23) rfl (by kernel_rfl) (by kernel_rfl) (by kernel_rfl) (fun _ _ _ h => h) (Or.inl ⟨by rfl, ?y23⟩) hS2 ?r23
  case y23 => (intro w hSw; (try dsimp only at hSw); go_simp; (try with_reducible rfl))
  try simp only [Act.put, List.getElem_toArray, List.getElem_cons_succ, List.getElem_cons_zero, List.setIfInBounds_toArray, List.set_cons_zero, List.set_cons_succ]
  refine wpAnyH_take (i := 24) (v := ?v24) rfl (by kernel_rfl) (by kernel_rfl) (by kernel_rfl) (fun _ _ _ h => h) (Or.inl ⟨by rfl, ?y24⟩) hS2 ?r24
  case y24 => (intro w hSw; (try dsimp only at hSw); go_simp; (try with_reducible rfl))
  try simp only [Act.put, List.getElem_toArray, List.getElem_cons_succ, List.getElem_cons_zero, List.setIfInBounds_toArray, List.set_cons_zero, List.set_cons_succ]
  refine wpAnyH_take (i := 25) (v := ?v25) rfl (by kernel_rfl) (by kernel_rfl) (by kernel_rfl) (fun _ _ _ h => h) (Or.inl ⟨by rfl, ?y25⟩) hS2 ?r25
  case y25 => (intro w hSw; (try dsimp only at hSw); go_simp; (try with_reducible rfl))
  try simp only [Act.put, List.getElem_toArray, List.getElem_cons_succ, List.getElem_cons_zero, List.setIfInBounds_toArray, List.set_cons_zero, List.set_cons_succ]
  refine wpAnyH_take (i := 26) (v := ?v26) rfl (by kernel_rfl) (by kernel_rfl) (by kernel_rfl) (fun _ _ _ h => h) (Or.inl ⟨by rfl, ?y26⟩) hS2 ?r26
  case y26 => (intro w hSw; (try dsimp only at hSw); go_simp; (try with_reducible rfl))
  try simp only [Act.put, List.getElem_toArray, List.getElem_cons_succ, List.getElem_cons_zero, List.setIfInBounds_toArray, List.set_cons_zero, List.set_cons_succ]
  refine wpAnyH_take (i := 27) (v := ?v27) rfl (by kernel_rfl) (by kernel_rfl) (by kernel_rfl) (fun _ _ _ h => h) (Or.inl ⟨by rfl, ?y27⟩) hS2 ?r27
  case y27 => (intro w hSw; (try dsimp only at hSw); go_simp; (try with_reducible rfl))
  try simp only [Act.put, List.getElem_toArray, List.getElem_cons_succ, List.getElem_cons_zero, List.setIfInBounds_toArray, List.set_cons_zero, List.set_cons_succ]
  refine wpAnyH_take (i := 28) (v := ?v28) rfl (by kernel_rfl) (by kernel_rfl) (by kernel_rfl) (fun _ _ _ h => h) (Or.inl ⟨by rfl, ?y28⟩) hS2 ?r28
  case y28 => (intro w hSw; (try dsimp only at hSw); go_simp; (try with_reducible rfl))
  try simp only [Act.put, List.getElem_toArray, List.getElem_cons_succ, List.getElem_cons_zero, List.setIfInBounds_toArray, List.set_cons_zero, List.set_cons_succ]
  refine wpAnyH_take (i := 29) (v := ?v29) rfl (by kernel_rfl) (by kernel_rfl) (by kernel_rfl) (fun _ _ _ h => h) (Or.inl ⟨by rfl, ?y29⟩) hS2 ?r29
  case y29 => (intro w hSw; (try dsimp only at hSw); go_simp; (try with_reducible rfl))
  try simp only [Act.put, List.getElem_toArray, List.getElem_cons_succ, List.getElem_cons_zero, List.setIfInBounds_toArray, List.set_cons_zero, List.set_cons_succ]
  refine wpAnyH_ready (rs := [16]) (by kernel_rfl) (by simp) ?_
  refine AllReadyH.cons rfl (fun K hK => ?_) AllReadyH.nil
  go_simp
  refine (signs_any _).mono ?_
  rintro x w7 ⟨rfl, ht7, hb7, hz7⟩
  have o7 : w7.cell? ⟨w6.heap.size, g, none⟩ = some (.string y16) := by rw [← HY.out]; exact ht7 g h16
  have p1 : w7.cell? ⟨w5.heap.size, d, none⟩ = some (.string x25) := (hb7.cell (p := ⟨w5.heap.size, d, none⟩) hz6').trans o6
  have p2 : w7.cell? ⟨b2, d, none⟩ = some (.string x25) := (hb7.cell (p := ⟨b2, d, none⟩) (Nat.lt_trans hz25 hz6')).trans q2
  have p3 : w7.cell? ⟨b3, g, none⟩ = some (.string y16) := (hb7.cell (p := ⟨b3, g, none⟩) (Nat.lt_trans hz35 hz6')).trans q3
  have HB67 := Lib.hid hb7
  clear ht7 hz7
  refine hK.out _ _ ⟨p1, p2, p3, hb7⟩ (fun _ => ?_)
  clear hK K hb7
  try simp only [Act.put, List.getElem_toArray, List.getElem_cons_succ, List.getElem_cons_zero, List.setIfInBounds_toArray, List.set_cons_zero, List.set_cons_succ]
  refine wpAnyH_mono (S' := fun w' => w'.cell? ⟨w6.heap.size, g, none⟩ = some (.string y16) ∧ w'.cell? ⟨w5.heap.size, d, none⟩ = some (.string x25) ∧ w'.cell? ⟨b2, d, none⟩ = some (.string x25) ∧ w'.cell? ⟨b3, g, none⟩ = some (.string y16) ∧ Below w7.heap.size w7 w') (fun w' h => ⟨h.2.1, h.2.2.1, h.2.2.2.1, HB67.out.trans (h.2.2.2.2.mono HB67.out.size)⟩) _ _ _ _ ?_
  have hS3 : w7.cell? ⟨w6.heap.size, g, none⟩ = some (.string y16) ∧ w7.cell? ⟨w5.heap.size, d, none⟩ = some (.string x25) ∧ w7.cell? ⟨b2, d, none⟩ = some (.string x25) ∧ w7.cell? ⟨b3, g, none⟩ = some (.string y16) ∧ Below w7.heap.size w7 w7 := ⟨o7, p1, p2, p3, Below.refl _ _⟩
  clear hS2
  refine wpAnyH_take (i := 21) (v := ?v21) rfl (by kernel_rfl) (by kernel_rfl) (by kernel_rfl) (fun _ _ _ h => h) (Or.inl ⟨by rfl, ?y21⟩) hS3 ?r21
  case y21 => (intro w hSw; (try dsimp only at hSw); go_simp; (try with_reducible rfl))
  try simp only [Act.put, List.getElem_toArray, List.getElem_cons_succ, List.getElem_cons_zero, List.setIfInBounds_toArray, List.set_cons_zero, List.set_cons_succ]
  refine wpAnyH_take (i := 22) (v := ?v22) rfl (by kernel_rfl) (by kernel_rfl) (by kernel_rfl) (fun _ _ _ h => h) (Or.inl ⟨by rfl, ?y22⟩) hS3 ?r22
  case y22 => (intro w hSw; (try dsimp only at hSw); go_simp; (try with_reducible rfl))
  try simp only [Act.put, List.getElem_toArray, List.getElem_cons_succ, List.getElem_cons_zero, List.setIfInBounds_toArray, List.set_cons_zero, List.set_cons_succ]
  refine wpAnyH_take (i := 30) (v := ?v30) rfl (by kernel_rfl) (by kernel_rfl) (by kernel_rfl) (fun _ _ _ h => h) (Or.inl ⟨by rfl, ?y30⟩) hS3 ?r30
  case y30 => (intro w hSw; (try dsimp only at hSw); go_simp; (try with_reducible rfl))
  try simp only [Act.put, List.getElem_toArray, List.getElem_cons_succ, List.getElem_cons_zero, List.setIfInBounds_toArray, List.set_cons_zero, List.set_cons_succ]
  refine wpAnyH_take (i := 31) (v := ?v31) rfl (by kernel_rfl) (by kernel_rfl) (by kernel_rfl) (fun _ _ _ h => h) (Or.inl ⟨by rfl, ?y31⟩) hS3 ?r31
  case y31 => (intro w hSw; (try dsimp only at hSw); go_simp; (try with_reducible rfl))
  try simp only [Act.put, List.getElem_toArray, List.getElem_cons_succ, List.getElem_cons_zero, List.setIfInBounds_toArray, List.set_cons_zero, List.set_cons_succ]
  refine wpAnyH_take (i := 32) (v := ?v32) rfl (by kernel_rfl) (by kernel_rfl) (by kernel_rfl) (fun _ _ _ h => h) (Or.inl ⟨by rfl, ?y32⟩) hS3 ?r32
  case y32 => (intro w hSw; (try dsimp only at hSw); go_simp; (try with_reducible rfl))
  try simp only [Act.put, List.getElem_toArray, List.getElem_cons_succ, List.getElem_cons_zero, List.setIfInBounds_toArray, List.set_cons_zero, List.set_cons_succ]
  refine wpAnyH_done (by kernel_rfl) ?_ _
  have HB7' := Lib.hid (HB5.out.trans ((HB56.out.trans (HB67.out.mono HB56.out.size)).mono HB5.out.size))
  go_wp2_with fail
  go_ret
  exact ⟨rfl, HB7'.out⟩
end Go.Proofs.YthhkjjdhecpmlaaDoor
