/-
  The contracts of kidTexts and awaitText.
-/
import Derived.Test.YthhkjjdhecpmlaaDoorTrF
import Derived.Test.YthhkjjdhecpmlaaDoorShelfB
import Derived.Test.YthhkjjdhecpmlaaDoorLxM
namespace Go.Proofs.YthhkjjdhecpmlaaDoor
open Go.RowKit
set_option linter.unusedVariables false
set_option linter.unusedSimpArgs false
/-- Texts with commas between. -/
def joinT (ts : List ByteArray) : ByteArray := ⟨(Lib.join (ts.map (·.data.toList)) [44, 32]).toArray⟩
theorem lens_le {M : Nat} : ∀ l : List ByteArray, (∀ t ∈ l, t.size ≤ M) → Lib.lens (l.map (·.data.toList)) ≤ l.length * M
  | [], _ => by simp [Lib.lens]
  | t :: r, h => by
    have h1 := lens_le r (fun u hu => h u (List.mem_cons_of_mem _ hu))
    have h2 : t.data.size ≤ M := h t (List.mem_cons_self ..)
    simp only [Lib.lens, List.map_cons, List.sum_cons, List.length_cons, Nat.succ_mul, Array.length_toList] at h1 ⊢
    omega
theorem join_le {M : Nat} (sep : List UInt8) : ∀ l : List ByteArray, (∀ t ∈ l, t.size ≤ M) → (Lib.join (l.map (·.data.toList)) sep).length ≤ l.length * M + sep.length * l.length
  | [], _ => by simp [Lib.join_nil]
  | t :: r, h => by
    have h1 := lens_le r (fun u hu => h u (List.mem_cons_of_mem _ hu))
    have h2 : t.data.size ≤ M := h t (List.mem_cons_self ..)
    rw [List.map_cons, Lib.join_cons, List.length_append, Lib.joinTail_length, List.length_map, Array.length_toList, List.length_cons, Nat.succ_mul, Nat.mul_succ]
    omega
theorem join_row {W : World} {base n : Nat} {v : Value} {l : List ByteArray} (h : W.ownsRow base 9 1 v n (l.map Value.string)) (sep : ByteArray) (hn : n = l.length) (hN : l.length ≤ 140737488355328)
    (hlen : (Lib.join (l.map (·.data.toList)) sep.data.toList).length ≤ 140737488355328) :
    Calls Tryd.prog 88 #[v, .string sep] W fun e w' => e = .returned (.string ⟨(Lib.join (l.map (·.data.toList)) sep.data.toList).toArray⟩) ∧ Below W.heap.size W w' := by
  subst hn
  rcases h.2 with ⟨rfl, h0⟩ | ⟨g, cap, cur, hv, hbg, hg, hcap, hrest⟩
  · obtain rfl := List.length_eq_zero_iff.1 h0
    refine (Tryd.strings_Join_none _ _ _ _).mono ?_
    rintro e w' ⟨rfl, rfl⟩
    exact ⟨rfl, Below.refl _ _⟩
  · subst hv
    refine Tryd.strings_Join g 0 cap l sep W (fun j x hx => ?_) (Array.getElem?_eq_some_iff.1 hg).1 hN hcap hlen
    have hj := (List.getElem?_eq_some_iff.1 hx).1
    rw [h.cellAt (0 + j) (by omega)]
    simp [List.getD, hx]
theorem join_fits (ts : List ByteArray) (j : Nat) (hj : j = ts.length) (hl : j ≤ 1000) (hsz : ∀ t ∈ ts, t.size ≤ 100000000) : (Lib.join (ts.map (·.data.toList)) [44, 32]).length ≤ 140737488355328 := by
  have h2 := join_le [44, 32] ts hsz
  have h3 : ts.length * 100000000 ≤ 1000 * 100000000 := Nat.mul_le_mul_right _ (hj ▸ hl)
  have h4 : 2 * ts.length ≤ 2 * 1000 := Nat.mul_le_mul_left _ (hj ▸ hl)
  have h5 : ([44, 32] : List UInt8).length = 2 := rfl
  rw [h5] at h2
  refine Nat.le_trans h2 (Nat.le_trans (Nat.add_le_add h3 h4) (by decide))
set_option maxHeartbeats 4000000 in
set_option maxRecDepth 100000 in
theorem kidTexts_of (k a n : Int) (nm : ByteArray) (off : Bool) (p : Option Addr) (len cap : Nat) (ts : List ByteArray) (w : World) (hlen : len = ts.length) (hl : len ≤ 1000)
    (hsz : ∀ t ∈ ts, t.size ≤ 100000000)
    (hk : ∀ i (h : i < ts.length), KidAt w (exVal k a n nm off (.slice p len cap)) i 0 ts[i]) :
    Calls Tryd.prog 57 #[exVal k a n nm off (.slice p len cap)] w fun e w' => e = .returned (.string (joinT ts)) ∧ Below w.heap.size w w' := by
  obtain ⟨i0, hi, hz0, hz1, hz2⟩ := info_parts info9
  have HK := Lib.hid hk; have HLEN := Lib.hid hlen; clear hk hlen
  go_enter Tryd.func57, Tryd.ntmps57
  go_wp2
  generalize hW : w.alloc _ = W0
  have hs : w.heap.size < W0.heap.size := by rw [← hW]; simp
  have c0 : W0.cell? ⟨w.heap.size, 0, none⟩ = some (.int .i64 k) := by rw [← hW]; simp
  have c1 : W0.cell? ⟨w.heap.size, 1, none⟩ = some (.int .i64 a) := by rw [← hW]; simp
  have c2 : W0.cell? ⟨w.heap.size, 2, none⟩ = some (.int .i64 n) := by rw [← hW]; simp
  have c3 : W0.cell? ⟨w.heap.size, 3, none⟩ = some (.string nm) := by rw [← hW]; simp
  have c4 : W0.cell? ⟨w.heap.size, 4, none⟩ = some (.bool off) := by rw [← hW]; simp
  have c5 : W0.cell? ⟨w.heap.size, 5, none⟩ = some (.slice p len cap) := by rw [← hW]; simp
  have HB0 := Lib.hid (show Below w.heap.size w W0 by rw [← hW]; exact (Below.refl _ _).alloc (Nat.le_refl _) _)
  have HC := Lib.hid (And.intro c0 (And.intro c1 (And.intro c2 (And.intro c3 (And.intro c4 (And.intro c5 (Below.refl W0.heap.size W0)))))))
  clear hW c0 c1 c2 c3 c4 c5
  go_loopw [3, 8] (fun v t wr => ∃ j : Nat, t = .int .i64 j ∧ j ≤ len ∧ wr.ownsRow W0.heap.size 9 1 v j ((ts.take j).map Value.string) ∧ Below W0.heap.size W0 wr) (fun _ t _ => len - (intOf t).toNat)
  case atStart => exact ⟨0, rfl, Nat.zero_le _, ⟨by simp, Or.inl ⟨rfl, rfl⟩⟩, Below.refl _ _⟩
  case round =>
    obtain ⟨j, rfl, hj, hown, hbr⟩ := hrel
    obtain ⟨c0, c1, c2, c3, c4, c5, _⟩ := box_keep hs HC.out hbr
    have HO := Lib.hid hown; have HBR := Lib.hid hbr; clear hown hbr
    by_cases hl1 : j < len
    · have hlt : j < ts.length := HLEN.out ▸ hl1
      obtain ⟨x, hx⟩ : ∃ x, ts[j] = x := ⟨_, rfl⟩
      have HX := Lib.hid (HK.out j hlt wr (HB0.out.trans (HBR.out.mono (by omega))))
      rw [hx] at HX
      have HTK := Lib.hid (show (ts.take (j + 1)).map Value.string = (ts.take j).map Value.string ++ [.string x] by rw [List.take_add_one, List.getElem?_eq_getElem hlt, hx]; simp)
      clear hx hlt
      go_wp2_with fail
      refine HX.out.mono ?_
      rintro e w2 ⟨rfl, hb2⟩
      have HO2 := Lib.hid (ownsRow_below HO.out hb2)
      have HB2 := Lib.hid (HBR.out.trans (hb2.mono HBR.out.size))
      clear hb2 c0 c1 c2 c3 c4 c5
      go_wp2_with (at_builtin; refine wpList_append_own _ rfl (.tmp 11) (.tmp 15) 39 rfl W0.heap.size 9 i0 _ 1 16 Tryd.underlying39 hi hz0 hz1 hz2 rfl (by decide) _ j ((ts.take j).map Value.string) rfl (HO2.out.alloc _) ⟨w2.heap.size, 0, none⟩ 1 1 [.string x] rfl rfl ?e1 ?e2 ?e3 ?e4 ?e5 ?_)
      case e1 => exact new_cells _ _ _ _ rfl
      case e2 => simp [Value.oneCell']
      case e3 => unfold maxLen; omega
      case e4 => omega
      case e5 => have := HB2.out.size; simp; omega
      intro v8 w8 hown8 hg8 _
      have hrow := HO2.out.lt
      have HO8 := Lib.hid (show w8.ownsRow W0.heap.size 9 1 v8 (j + 1) ((ts.take (j + 1)).map Value.string) by rw [HTK.out, List.map_take]; exact hown8)
      have HB8 := Lib.hid (show Below W0.heap.size w2 w8 from ((Below.refl W0.heap.size w2).alloc (by have := HB2.out.size; omega) _).grown hg8 (by have := HB2.out.size; simp; omega) (fun k hk => (hrow k hk).1))
      clear hown8 hg8 hrow
      go_wp2_with fail
      go_roundw
      case rel => exact ⟨j + 1, by go_num, by omega, HO8.out, HB2.out.trans HB8.out⟩
      case measure => simp [intOf]; omega
    · have hje : j = len := by omega
      subst hje
      have ht : ts.take j = ts := by rw [HLEN.out]; exact List.take_length
      rw [ht] at HO
      clear ht
      go_wp2_with fail
      have hn := HLEN.out
      refine (join_row HO.out ⟨#[44, 32]⟩ hn (hn ▸ Nat.le_trans hl (by decide)) (join_fits ts _ hn hl hsz)).mono ?_
      clear hn
      rintro e w2 ⟨rfl, hb2⟩
      have HB2 := Lib.hid (HBR.out.trans (hb2.mono HBR.out.size))
      clear hb2 c0 c1 c2 c3 c4 c5
      go_wp2_with fail
      go_ret
      exact ⟨rfl, HB0.out.trans (HB2.out.mono (by omega))⟩
end Go.Proofs.YthhkjjdhecpmlaaDoor
