/-
  The reference of layer 2: row; the kinds of Text Binary, Call, Await.
-/
import Derived.Test.YthhkjjdhecpmlaaDoorRtG
import Derived.Test.YthhkjjdhecpmlaaDoorTrG
namespace Go.Proofs.YthhkjjdhecpmlaaDoor
open Go.RowKit
set_option linter.unusedVariables false
set_option linter.unusedSimpArgs false
theorem join_snoc (sep : List UInt8) : ∀ (l : List (List UInt8)) (x : List UInt8), l ≠ [] → Lib.join (l ++ [x]) sep = Lib.join l sep ++ sep ++ x
  | [], _, h => (h rfl).elim
  | y :: r, x, _ => by
    rw [List.cons_append, Lib.join_cons, Lib.join_cons]
    simp [Lib.joinTail]
theorem joinT_one (x : ByteArray) : joinT [x] = x := by
  unfold joinT
  rw [List.map_cons, List.map_nil, Lib.join_one]
theorem joinT_snoc (l : List ByteArray) (x : ByteArray) (h : l ≠ []) : joinT (l ++ [x]) = joinT l ++ ⟨#[44, 32]⟩ ++ x := by
  unfold joinT
  rw [List.map_append, List.map_cons, List.map_nil, join_snoc _ _ _ (by simpa using h)]
  apply ByteArray.ext
  simp
theorem joinT_fits {l : List ByteArray} {M : Nat} (h : ∀ t ∈ l, t.size ≤ M) : (joinT l).size ≤ l.length * M + 2 * l.length := by
  have := join_le [44, 32] l h
  show (Lib.join _ _).toArray.size ≤ _
  rw [List.size_toArray]
  exact this
/-- The kids lie in a row, and their texts are known. -/
def RKids (w : World) (b o len : Nat) (ts : List ByteArray) : Prop :=
  len = ts.length ∧ ∀ i (h : i < ts.length), ∃ k a n nm off sp sl sc, Six w b (o + i * 6) (.int .i64 k) (.int .i64 a) (.int .i64 n) (.string nm) (.bool off) (.slice sp sl sc) ∧ RTextW w (exVal k a n nm off (.slice sp sl sc)) ts[i]
theorem row_round {len j : Nat} {ts : List ByteArray} (hts : len = ts.length) (hj : j < len) (h0 : 0 < j) : joinT (ts.take (j + 1)) = joinT (ts.take j) ++ ⟨#[44, 32]⟩ ++ (ts[j]'(hts ▸ hj)) := by
  rw [List.take_add_one, List.getElem?_eq_getElem (hts ▸ hj), Option.toList_some]
  exact joinT_snoc _ _ (by intro h; have := congrArg List.length h; rw [List.length_take, List.length_nil] at this; omega)
theorem row_first {len j : Nat} {ts : List ByteArray} (hts : len = ts.length) (hj : j < len) (h0 : j = 0) : joinT (ts.take (j + 1)) = joinT (ts.take j) ++ (ts[j]'(hts ▸ hj)) := by
  subst h0
  rw [List.take_add_one, List.getElem?_eq_getElem (hts ▸ hj), Option.toList_some, List.take_zero, List.nil_append]
  rw [joinT_one]
  show _ = (⟨#[]⟩ : ByteArray) ++ _
  apply ByteArray.ext
  simp
theorem rrow_none (p : Option Addr) (cap : Nat) (w : World) : Calls Tryd.prog 62 #[.slice p 0 cap] w fun e w' => e = .returned (.string (joinT [])) ∧ Below w.heap.size w w' := by
  go_enter Tryd.func62, Tryd.ntmps62
  go_wp2_with fail
  go_loop [3, 8] (fun v t => v = .string ⟨#[]⟩ ∧ t = .int .i64 0) (fun _ _ => 0)
  case atStart => exact ⟨rfl, rfl⟩
  case round =>
    obtain ⟨rfl, rfl⟩ := hrel
    go_wp2_with fail
    go_ret
    exact ⟨rfl, Below.refl _ _⟩
set_option maxHeartbeats 4000000 in
set_option maxRecDepth 100000 in
theorem rrow_of (b o len cap : Nat) (ts : List ByteArray) (w : World) (hl : len ≤ 1000) (hb : b < w.heap.size) (hsz : ∀ t ∈ ts, t.size ≤ 100000) (hk : RKids w b o len ts) :
    Calls Tryd.prog 62 #[.slice (some ⟨b, o, none⟩) len cap] w fun e w' => e = .returned (.string (joinT ts)) ∧ Below w.heap.size w w' := by
  have HK := Lib.hid hk; have HSZ := Lib.hid hsz; clear hk hsz
  go_enter Tryd.func62, Tryd.ntmps62
  go_wp2
  go_loopw [3, 8] (fun v t wr => ∃ j : Nat, t = .int .i64 j ∧ j ≤ len ∧ v = .string (joinT (ts.take j)) ∧ Below w.heap.size w wr) (fun _ t _ => len - (intOf t).toNat)
  case atStart => exact ⟨0, rfl, Nat.zero_le _, rfl, Below.refl _ _⟩
  case round =>
    obtain ⟨j, rfl, hj, rfl, hbr⟩ := hrel
    have HBR := Lib.hid hbr
    have hbs := hbr.size
    by_cases hl1 : j < len
    · have hlt : j < ts.length := HK.out.1 ▸ hl1
      obtain ⟨k, a, n, nm, off, sp, sl, sc, hs, hT⟩ := HK.out.2 j hlt
      have hbw : b < wr.heap.size := by omega
      obtain ⟨c0, c1, c2, c3, c4, c5⟩ := six_parts (hs.below hbr hb)
      have hx := HSZ.out _ (List.getElem_mem hlt)
      have hz : (joinT (ts.take j)).size ≤ 200000000 := by
        have h1 := joinT_fits (l := ts.take j) (M := 100000) (fun t ht => HSZ.out t (List.mem_of_mem_take ht))
        have h2 : (ts.take j).length ≤ j := List.length_take_le _ _
        have h3 : (ts.take j).length * 100000 ≤ 1000 * 100000 := Nat.mul_le_mul_right _ (by omega)
        omega
      by_cases h0 : j = 0
      · have HR := Lib.hid (row_first HK.out.1 hl1 h0)
        have hd : decide (0 < j) = false := by simp [h0]
        have hd2 : ¬ 0 < j := by omega
        have HT := Lib.hid hT
        generalize ts[j] = x at hx HT HR
        generalize joinT (ts.take j) = y at hz HR
        have f1 : ¬ 9223372036854775807 < y.size + x.size := by omega
        clear hT hs hbr hlt h0
        go_wp2_with fail
        refine (HT.out _ (HBR.out.trans (((Below.refl _ _).alloc (Nat.le_refl _) _).mono hbs))).mono ?_
        rintro e w2 ⟨rfl, hb2⟩
        have HB2 := Lib.hid (HBR.out.trans ((((Below.refl _ _).alloc (Nat.le_refl _) _).trans (hb2.mono (by simp))).mono hbs))
        clear hb2 c0 c1 c2 c3 c4 c5
        go_wp2_with fail
        go_roundw
        case rel => exact ⟨j + 1, by go_num, by omega, by rw [HR.out], HB2.out⟩
        case measure => simp [intOf]; omega
      · have HR := Lib.hid (row_round HK.out.1 hl1 (by omega))
        have hd : decide (0 < j) = true := by simp; omega
        have hd2 : 0 < j := by omega
        have HT := Lib.hid hT
        generalize ts[j] = x at hx HT HR
        generalize joinT (ts.take j) = y at hz HR
        have f1 : ¬ 9223372036854775807 < y.size + 2 := by omega
        have f2 : ¬ 9223372036854775807 < y.size + 2 + x.size := by omega
        clear hT hs hbr hlt h0
        go_wp2_with fail
        refine (HT.out _ (HBR.out.trans (((Below.refl _ _).alloc (Nat.le_refl _) _).mono hbs))).mono ?_
        rintro e w2 ⟨rfl, hb2⟩
        have HB2 := Lib.hid (HBR.out.trans ((((Below.refl _ _).alloc (Nat.le_refl _) _).trans (hb2.mono (by simp))).mono hbs))
        clear hb2 c0 c1 c2 c3 c4 c5
        go_wp2_with fail
        go_roundw
        case rel => exact ⟨j + 1, by go_num, by omega, by rw [HR.out], HB2.out⟩
        case measure => simp [intOf]; omega
    · have hje : j = len := by omega
      subst hje
      have HE := Lib.hid (show joinT (ts.take j) = joinT ts by rw [HK.out.1, List.take_length])
      generalize joinT (ts.take j) = y at HE
      clear hbr
      go_wp2_with fail
      go_ret
      rw [HE.out]
      exact ⟨rfl, HBR.out⟩
end Go.Proofs.YthhkjjdhecpmlaaDoor
