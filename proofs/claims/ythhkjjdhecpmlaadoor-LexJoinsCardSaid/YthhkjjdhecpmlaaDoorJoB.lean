/-
  girandolelaw01.LexJoins, walked.
-/
import Derived.Test.YthhkjjdhecpmlaaDoorJoA
import Derived.Test.YthhkjjdhecpmlaaDoorStB
import Derived.Laws.BitsLemmas
import Derived.IntWalk
namespace Go.Proofs.YthhkjjdhecpmlaaDoor
open Go.RowKit
theorem and_any (x : Int) (m : Nat) (hm : m < 65536) : ∃ n : Nat, n ≤ m ∧ bits .and .i64 x (m : Int) = (n : Int) := by
  unfold bits
  simp only
  have h : (BitVec.ofInt IntKind.i64.bits x &&& BitVec.ofInt IntKind.i64.bits (m : Int)).toNat ≤ m := by
    rw [BitVec.toNat_and]
    refine Nat.le_trans Nat.and_le_right ?_
    have e : (BitVec.ofInt IntKind.i64.bits (m : Int)).toNat = m := by
      rw [BitVec.ofInt_natCast, BitVec.toNat_ofNat]
      exact Nat.mod_eq_of_lt (Nat.lt_of_lt_of_le hm (by decide))
    rw [e]; exact Nat.le_refl _
  exact ⟨_, h, IntWalk.i64_in _ (by omega)⟩
theorem news_of {w : World} {b : Nat} {l : List ByteArray} (h : Texts w b l) : ∀ (j : Nat) (u : Value), (l.map Value.string)[j]? = some u → w.cell? ((⟨b, 0, none⟩ : Addr).add j) = some u := by
  intro j u hu
  have hadd : (⟨b, 0, none⟩ : Addr).add j = ⟨b, j, none⟩ := by unfold Addr.add; split <;> simp_all
  have hj : j < l.length := by
    have := (List.getElem?_eq_some_iff.1 hu).1
    simpa using this
  rw [hadd, h j hj, ← hu]
  simp [List.getD, hj]
theorem texts_of {w : World} {base n : Nat} {v : Value} {l : List ByteArray} (hl : l ≠ []) (h : w.ownsRow base 9 1 v n (l.map Value.string)) (hn : n = l.length) : ∃ b cap, v = .slice (some ⟨b, 0, none⟩) l.length cap ∧ base ≤ b ∧ b < w.heap.size ∧ Texts w b l := by
  subst hn
  rcases h.2 with ⟨_, h0⟩ | ⟨g, cap, cur, hv, hbg, hg, hrest⟩
  · exact absurd (List.length_eq_zero_iff.1 h0) hl
  · subst hv
    refine ⟨g, cap, rfl, hbg, (Array.getElem?_eq_some_iff.1 hg).1, fun j hj => ?_⟩
    rw [h.cellAt j (by omega)]
    simp [List.getD, hj]
theorem strs_one {l : List ByteArray} : ∀ u ∈ l.map Value.string, u.oneCell' = true := by
  intro u hu
  obtain ⟨x, _, rfl⟩ := List.mem_map.1 hu
  rfl

theorem all_size : ∀ w ∈ allL, w.size ≤ 19 := by decide
theorem sep_size : ∀ w ∈ sepL, w.size ≤ 11 := by decide
theorem getD_mem {l : List ByteArray} {i : Nat} (h : i < l.length) : l.getD i ByteArray.empty ∈ l := by
  rw [List.getD_eq_getElem?_getD, List.getElem?_eq_getElem h]; exact List.getElem_mem h
theorem chain_at {s : ByteArray} : ∀ {a : Nat} {l : List Tk}, Chain s a l → ∀ (j : Nat) (h : j < l.length), l[j].pos + l[j].text.size ≤ s.size ∧ s.extract l[j].pos (l[j].pos + l[j].text.size) = l[j].text
  | a, [], h, _, _ => h.elim
  | a, T :: r, h, 0, _ => ⟨h.2.1, h.2.2.1⟩
  | a, T :: r, h, j + 1, hj => by
    obtain ⟨_, _, _, h4⟩ := h
    rcases h4 with ⟨rfl, _, _⟩ | ⟨_, hc⟩
    · simp at hj
    · exact chain_at hc j (by simpa using hj)
theorem row_form {w : World} {base n : Nat} {v : Value} {l : List ByteArray} (h : w.ownsRow base 9 1 v n (l.map Value.string)) (hn : n = l.length) :
    ∃ (pq : Option Addr) (capq : Nat), v = .slice pq n capq ∧ ∀ j (hj : j < l.length), ∃ bq, pq = some ⟨bq, 0, none⟩ ∧ bq < w.heap.size ∧ w.cell? ⟨bq, j, none⟩ = some (.string l[j]) := by
  subst hn
  rcases h.2 with ⟨rfl, h0⟩ | ⟨g, cap, cur, hv, hbg, hg, hrest⟩
  · exact ⟨none, 0, by rw [h0], fun j hj => by omega⟩
  · subst hv
    refine ⟨_, cap, rfl, fun j hj => ⟨g, rfl, (Array.getElem?_eq_some_iff.1 hg).1, ?_⟩⟩
    rw [h.cellAt j (by omega)]
    simp [hj]
theorem join_toks {ts : List Tk} {ps : List (ByteArray × ByteArray)} {l : List Tk} {E : Tk} (hE : E.kind = 5) (hmap : ts.map (·.text) = ps.map (·.1)) (hl : ts ++ [E] = l) :
    l.length = ps.length + 1 ∧ (∀ h : ps.length < l.length, l[ps.length].kind = 5) ∧ ∀ j (_ : j < ps.length) (h2 : j < l.length) (h3 : j < (ps.map (·.1)).length), l[j].text = (ps.map (·.1))[j] := by
  have hlts : ts.length = ps.length := by have := congrArg List.length hmap; simpa using this
  subst hl
  refine ⟨by simp [hlts], fun h => ?_, fun j h1 h2 h3 => ?_⟩
  · have : (ts ++ [E])[ps.length]? = some E := by rw [List.getElem?_append_right (by omega), hlts]; simp
    rw [List.getElem?_eq_getElem h] at this
    rw [Option.some.inj this, hE]
  · have e1 : (ts.map (·.text))[j]? = (ps.map (·.1))[j]? := by rw [hmap]
    rw [List.getElem?_eq_getElem (by simpa [hlts] using h1), List.getElem?_eq_getElem h3] at e1
    have e2 : (ts ++ [E])[j] = ts[j]'(by omega) := by
      have : (ts ++ [E])[j]? = some (ts[j]'(by omega)) := by rw [List.getElem?_append_left (by omega), List.getElem?_eq_getElem]
      rw [List.getElem?_eq_getElem h2] at this
      exact Option.some.inj this
    rw [e2]
    simpa using Option.some.inj e1
set_option maxHeartbeats 8000000 in
set_option maxRecDepth 100000 in
theorem lexJoins_walk (pa pb : Option Addr) (len cap lenb capb : Nat) (w : World) (hlen : len ≤ 9223372036854775807) (hlenb : lenb ≤ 9223372036854775807)
    (hwh : ∀ i, i < len → ∃ (b off : Nat) (z : Int), pa = some ⟨b, off, none⟩ ∧ b < w.heap.size ∧ w.cell? ⟨b, off + i, none⟩ = some (.int .i64 z)) (hr : Rng w) :
    Calls Tryd.prog 4 #[.slice pa len cap, .slice pb lenb capb] w fun e w' => e = .returned (.bool true) ∧ Below w.heap.size w w' := by
  have HR := Lib.hid hr; have HWH := Lib.hid hwh; clear hr hwh
  obtain ⟨i0, hi, hz0, hz1, hz2⟩ := info_parts info9
  go_enter Tryd.func4, Tryd.ntmps4
  go_wp2_with fail
  refine (awakeLex _ HR.out).mono ?_
  rintro x w1 ⟨rfl, hb1⟩
  have HR1 := Lib.hid (HR.out.below hb1); have HB1 := Lib.hid hb1; clear hb1
  go_wp2_with fail
  generalize hW : w1.alloc _ = W1
  have hbW : Below w1.heap.size w1 W1 := by rw [← hW]; exact (Below.refl _ _).alloc (Nat.le_refl _) _
  have HO1 := Lib.hid (show W1.ownsRow w1.heap.size 9 1 (.slice (some ⟨w1.heap.size, 0, none⟩) 0 0) 0 [] by rw [← hW]; exact World.ownsRow_lit _ _ _ (Nat.le_refl _) (by decide) rfl)
  have HBW := Lib.hid hbW; clear hW hbW
  refine (words_any _).mono ?_
  rintro x w2 ⟨rfl, ht2, hb2, hz2'⟩
  have HT2 := Lib.hid ht2; have HO2 := Lib.hid (ownsRow_below HO1.out hb2); have HB2 := Lib.hid (HBW.out.trans (hb2.mono HBW.out.size)); clear ht2 hb2 hz2' HO1
  go_wp2_with (at_builtin; refine wpList_append_own _ rfl (.tmp 16) (.tmp 17) 39 rfl w1.heap.size 9 i0 _ 1 16 Tryd.underlying39 hi hz0 hz1 hz2 rfl (by decide) _ 0 [] rfl HO2.out ⟨W1.heap.size, 0, none⟩ 25 25 (wordL.map Value.string) rfl rfl ?a1 ?a2 ?a3 ?a4 ?a5 ?_)
  case a1 => exact news_of HT2.out
  case a2 => exact strs_one
  case a3 => unfold maxLen; omega
  case a4 => omega
  case a5 => exact HB2.out.size
  intro v3 w3 hown3 hg3 _
  have HO3 := Lib.hid hown3; have HB3 := Lib.hid (HB2.out.grown hg3 HB2.out.size (fun k hk => (HO2.out.lt k hk).1)); clear hown3 hg3
  go_wp2_with fail
  refine (signs_any _).mono ?_
  rintro x w4 ⟨rfl, ht4, hb4, hz4⟩
  have HT4 := Lib.hid ht4; have HO4 := Lib.hid (ownsRow_below HO3.out hb4); have HB4 := Lib.hid (HB3.out.trans (hb4.mono HB3.out.size)); clear ht4 hb4 hz4
  go_wp2_with (first | (at_builtin; refine wpList_append_own _ rfl (.tmp 18) (.tmp 19) 39 rfl w1.heap.size 9 i0 _ 1 16 Tryd.underlying39 hi hz0 hz1 hz2 rfl (by decide) _ _ _ rfl HO4.out ⟨w3.heap.size, 0, none⟩ 16 16 (signL.map Value.string) rfl rfl ?b1 ?b2 ?b3 ?b4 ?b5 ?_))
  case b1 => exact news_of HT4.out
  case b2 => exact strs_one
  case b3 => unfold maxLen; omega
  case b4 => omega
  case b5 => exact HB4.out.size
  intro v5 w5 hown5 hg5 _
  have HO5 := Lib.hid hown5; have HB5 := Lib.hid (HB4.out.grown hg5 HB4.out.size (fun k hk => (HO4.out.lt k hk).1)); clear hown5 hg5
  go_wp2_with (first | (at_builtin; refine wpList_append_own _ rfl (.tmp 21) (.tmp 22) 39 rfl w1.heap.size 9 i0 _ 1 16 Tryd.underlying39 hi hz0 hz1 hz2 rfl (by decide) _ _ _ rfl (HO5.out.alloc _) ⟨w5.heap.size, 0, none⟩ 5 5 ([⟨#[120]⟩, ⟨#[65, 98, 95, 57]⟩, ⟨#[48]⟩, ⟨#[49, 55]⟩, ⟨#[57, 50, 50, 51, 51, 55, 50, 48, 51, 54, 56, 53, 52, 55, 55, 53, 56, 48, 56]⟩].map Value.string) rfl rfl ?d1 ?d2 ?d3 ?d4 ?d5 ?_))
  case d1 => exact new_cells _ _ _ _ rfl
  case d2 => exact strs_one
  case d3 => unfold maxLen; omega
  case d4 => omega
  case d5 => have := HB5.out.size; simp; omega
  intro v6 w6 hown6 hg6 _
  have hown6' : w6.ownsRow w1.heap.size 9 1 v6 46 (allL.map Value.string) := hown6
  obtain ⟨g, cap6, rfl, hg0, hg1, htx⟩ := texts_of (by decide) hown6' (by rfl)
  rw [show allL.length = 46 from rfl]
  have HTX := Lib.hid htx
  have HB6 := Lib.hid (HB1.out.trans (((HB5.out.alloc HB5.out.size _).grown hg6 (by have := HB5.out.size; simp; omega) (fun k hk => (HO5.out.lt k hk).1)).mono HB1.out.size))
  clear hown6 hown6' hg6 htx HO5 HB5 HO4 HB4 HO3 HB3 HO2 HB2 HBW HT2 HT4
  go_wp2_with fail
  generalize hW7 : w6.alloc _ = W7
  have hbW7 : Below w6.heap.size w6 W7 := by rw [← hW7]; exact (Below.refl _ _).alloc (Nat.le_refl _) _
  have HO7 := Lib.hid (show W7.ownsRow w6.heap.size 9 1 (.slice (some ⟨w6.heap.size, 0, none⟩) 0 0) 0 [] by rw [← hW7]; exact World.ownsRow_lit _ _ _ (Nat.le_refl _) (by decide) rfl)
  have HB7 := Lib.hid (HB6.out.trans (hbW7.mono HB6.out.size)); have HTX7 := Lib.hid (HTX.out.below hbW7 hg1)
  have HR7 := Lib.hid (HR.out.below HB7.out)
  have hz06 : w.heap.size ≤ w6.heap.size := HB6.out.size
  have hw67 : w6.heap.size ≤ W7.heap.size := hbW7.size
  clear hW7 hbW7 HTX HB6
  go_loopw [6, 7, 8] (fun u v t wr => ∃ (ps : List (ByteArray × ByteArray)) (st : ByteArray), t = .int .i64 ps.length ∧ u = .string st ∧ Hid (st = joinB ps) ∧ ps.length ≤ 30 ∧ ps.length ≤ len ∧ st.size ≤ 30 * ps.length ∧ Hid (Fine ps) ∧ wr.ownsRow w6.heap.size 9 1 v ps.length ((ps.map (·.1)).map Value.string) ∧ Below w6.heap.size W7 wr) (fun _ _ t _ => 30 - (intOf t).toNat)
  case atStart => exact ⟨[], ⟨#[]⟩, rfl, rfl, Lib.hid rfl, Nat.zero_le _, Nat.zero_le _, Nat.le_refl _, Lib.hid (fun q hq => by cases hq), HO7.out, Below.refl _ _⟩
  case round =>
    obtain ⟨ps, st, rfl, rfl, HST, hp30, hplen, hstz, HF, hown, hbr⟩ := hrel
    have HO := Lib.hid hown; have HBR := Lib.hid hbr; clear hown hbr
    by_cases hl1 : ps.length < len
    · by_cases hl2 : ps.length < 30
      · obtain ⟨b, off, z, hpa, hbw, hcz⟩ := HWH.out _ hl1
        subst hpa
        have hcell : wr.cell? ⟨b, off + ps.length, none⟩ = some (.int .i64 z) := (HBR.out.cell (p := ⟨b, off + ps.length, none⟩) (Nat.lt_of_lt_of_le hbw hz06)).trans ((HB7.out.cell (p := ⟨b, off + ps.length, none⟩) hbw).trans hcz)
        clear hcz
        obtain ⟨n, hn, hm⟩ := and_any z 65535 (by decide)
        have hm1 : bits .and .i64 z 65535 = (n : Int) := hm
        have h46 : n % 46 < 46 := Nat.mod_lt _ (by omega)
        obtain ⟨x, hx⟩ : ∃ x, allL.getD (n % 46) ByteArray.empty = x := ⟨_, rfl⟩
        have hxm : x ∈ allL := hx ▸ getD_mem h46
        have hxz := all_size x hxm
        have htxt : wr.cell? ⟨g, n % 46, none⟩ = some (.string x) := by rw [← hx]; exact HTX7.out.below HBR.out hg1 _ h46
        obtain ⟨m, hm2', hm2⟩ := and_any lenb 255 (by decide)
        have hm3 : bits .and .i64 (lenb : Int) 255 = (m : Int) := hm2
        obtain ⟨k, hk, hm4⟩ := and_any ((ps.length : Int) + (m : Int)) 3 (by decide)
        have hm5 : bits .and .i64 ((ps.length : Int) + (m : Int)) 3 = (k : Int) := hm4
        have hk4 : k < 4 := by omega
        obtain ⟨p, hp⟩ : ∃ p, sepL.getD k ByteArray.empty = p := ⟨_, rfl⟩
        have hpm : p ∈ sepL := hp ▸ getD_mem hk4
        have hpz := sep_size p hpm
        have hsep : ∀ W : World, (W.alloc (.cells #[.string ⟨#[32]⟩, .string ⟨#[10]⟩, .string ⟨#[9, 32]⟩, .string ⟨#[32, 45, 45, 32, 120, 32, 60, 62, 32, 55, 10]⟩] 9)).cell? ⟨W.heap.size, k, none⟩ = some (.string p) := fun W => by rw [← hp]; exact texts_alloc W sepL 9 k hk4
        have HF2 := Lib.hid (show Fine (ps ++ [(x, p)]) from fun q hq => by
          rcases List.mem_append.1 hq with hq | hq
          · exact HF.out q hq
          · rcases List.mem_singleton.1 hq with rfl; exact ⟨hxm, hpm⟩)
        have HST2 := Lib.hid (show st ++ (x ++ p) = joinB (ps ++ [(x, p)]) by rw [joinB_step, HST.out])
        clear hm hm2 hm4 hx hp hxm hpm
        go_wp2_with (at_builtin; refine wpList_append_own _ rfl (.tmp 46) (.tmp 48) 39 rfl w6.heap.size 9 i0 _ 1 16 Tryd.underlying39 hi hz0 hz1 hz2 rfl (by decide) _ ps.length ((ps.map (·.1)).map Value.string) rfl (HO.out.alloc _) ⟨wr.heap.size, 0, none⟩ 1 1 [.string x] rfl rfl ?e1 ?e2 ?e3 ?e4 ?e5 ?_)
        case e1 => exact new_cells _ _ _ _ rfl
        case e2 => simp [Value.oneCell']
        case e3 => unfold maxLen; omega
        case e4 => omega
        case e5 => have := HBR.out.size; simp; omega
        intro v8 w8 hown8 hg8 _
        have hrow := HO.out.lt
        have HO8 := Lib.hid (show w8.ownsRow w6.heap.size 9 1 v8 (ps ++ [(x, p)]).length (((ps ++ [(x, p)]).map (·.1)).map Value.string) by rw [List.length_append, List.map_append, List.map_append, List.map_map]; exact hown8)
        have HB8 := Lib.hid (show Below w6.heap.size wr w8 from ((Below.refl w6.heap.size wr).alloc (by have := HBR.out.size; omega) _).grown hg8 (by have := HBR.out.size; simp; omega) (fun k hk => (hrow k hk).1))
        clear hown8 hg8 hrow hcell htxt
        go_wp2_with fail
        go_roundw
        case rel => exact ⟨ps ++ [(x, p)], st ++ (x ++ p), by rw [List.length_append]; go_num, rfl, HST2, by simp; omega, by simp; omega, by rw [ByteArray.size_append, ByteArray.size_append]; simp; omega, HF2, HO8.out.alloc _, ((HBR.out.trans HB8.out).alloc (by have := HBR.out.size; have := HB8.out.size; omega) _)⟩
        case measure => simp [intOf]; omega
      · have hl3 : ¬ ((ps.length : Int) < 30) := by omega
        obtain ⟨pq, capq, rfl, hwant⟩ := row_form HO.out (by simp)
        have HWANT := Lib.hid hwant; clear hwant
        have hrw : Rng wr := by
          obtain ⟨te, pe, h⟩ := HR7.out
          exact ⟨te, pe, (HBR.out.cell (p := ⟨2, 0, none⟩) (by have := HR.out.size; simp; omega)).trans h⟩
        have HRW := Lib.hid hrw; clear hrw
        obtain ⟨ts, hts, hmap⟩ := lex_joinB ps HF.out
        have hch := lexR_chain hts
        have hE := HST.out
        rw [← hE] at hts hch
        clear hE
        obtain ⟨l, hl⟩ : ∃ l, ts ++ [(⟨5, st.size, ⟨#[]⟩, 0⟩ : Tk)] = l := ⟨_, rfl⟩
        obtain ⟨hll, hkind, htext⟩ := join_toks rfl hmap hl
        rw [hl] at hts hch
        have HTEXT := Lib.hid htext; have HCH := Lib.hid (chain_at hch); have HLL := Lib.hid hll; have HKIND := Lib.hid hkind; have HTS := Lib.hid hts
        clear htext hch hkind hts hl hmap hll
        go_wp2_with fail
        refine (all_any st _ (by omega) HRW.out).mono ?_
        rintro x w9 ⟨hb9, h9⟩
        rw [HTS.out] at h9
        obtain ⟨v, rfl, ho⟩ := h9
        obtain ⟨b, cap9, rfl, htk⟩ := toks_of (by rw [HLL.out]; omega) ho
        have HK := Lib.hid (show w9.cell? ⟨b, ps.length * 4, none⟩ = some (.int .i64 5) by rw [(htk.2 ps.length (by rw [HLL.out]; omega)).1, HKIND.out (by rw [HLL.out]; omega)])
        have hb9z := htk.1
        have hk9 := HK.out
        rw [HLL.out]
        have HTK := Lib.hid htk; have HB9 := Lib.hid hb9
        clear htk hb9 ho
        go_wp2_with fail
        clear hk9
        generalize hW9 : w9.alloc _ = W9
        have hbW9 : Below w9.heap.size w9 W9 := by rw [← hW9]; exact (Below.refl _ _).alloc (Nat.le_refl _) _
        have HBW9 := Lib.hid hbW9; have HTKW := Lib.hid (HTK.out.below hbW9)
        have HB10 := Lib.hid (HB9.out.trans (hbW9.mono HB9.out.size))
        clear hW9 hbW9
        go_loopw [90] (fun t wx => ∃ j : Nat, t = .int .i64 j ∧ j ≤ ps.length ∧ Below W9.heap.size W9 wx) (fun t _ => ps.length - (intOf t).toNat)
        case atStart => exact ⟨0, rfl, Nat.zero_le _, Below.refl _ _⟩
        case round =>
          obtain ⟨j, rfl, hj, hbx⟩ := hrel
          have HBX := Lib.hid hbx; clear hbx
          by_cases hlt : j < ps.length
          · obtain ⟨bq, hpq, hbq, hcq⟩ := HWANT.out j (by simpa using hlt)
            subst hpq
            have hq1 : wr.cell? ⟨bq, j, none⟩ = some (.string ((ps.map (·.1))[j]'(by simpa using hlt))) := (HBX.out.cell (p := ⟨bq, j, none⟩) (Nat.lt_of_lt_of_le hbq HB10.out.size)).trans ((HB10.out.cell (p := ⟨bq, j, none⟩) hbq).trans hcq)
            have hlt2 : j < l.length := by rw [HLL.out]; omega
            have t1 := HTKW.out.below HBX.out
            obtain ⟨a0, a1, a2, a3⟩ := t1.2 j hlt2
            obtain ⟨hps, hex⟩ := HCH.out j hlt2
            rw [← HTEXT.out j hlt hlt2 (by simpa using hlt)] at hq1
            clear hcq t1 a0 a3
            generalize l[j] = T at *
            obtain ⟨kd, po, tx, nm⟩ := T
            have hps2 : po + tx.size ≤ st.size := hps
            have hex2 : st.extract po (po + tx.size) = tx := hex
            have hq2 : wr.cell? ⟨bq, j, none⟩ = some (.string tx) := hq1
            clear hps hex hq1
            have g2 : IntKind.i64.wrap ((po : Int) + (tx.size : Int)) = (po : Int) + (tx.size : Int) := IntWalk.i64_in _ (by omega)
            have g3 : (j : Int) < (ps.length : Int) + 1 := by omega
            have g4 : (0 : Int) ≤ (j : Int) := by omega
            go_wp2_with fail
            go_quiet (fail)
            clear g2 g3 g4 hex2
            go_wp2_with fail
            go_roundw
            case rel => exact ⟨j + 1, by go_num, by omega, belowDrawn HBX.out _⟩
            case measure => simp [intOf]; omega
          · have hje : j = ps.length := by omega
            clear hlt
            go_wp2_with fail
            go_ret
            exact ⟨rfl, HB7.out.trans ((HBR.out.trans ((HB10.out.trans (HBX.out.mono HB10.out.size)).mono (by have := HBR.out.size; omega))).mono hz06)⟩
    · have hp : ps.length = len := by omega
      subst hp
      obtain ⟨pq, capq, rfl, hwant⟩ := row_form HO.out (by simp)
      have HWANT := Lib.hid hwant; clear hwant
      have hrw : Rng wr := by
        obtain ⟨te, pe, h⟩ := HR7.out
        exact ⟨te, pe, (HBR.out.cell (p := ⟨2, 0, none⟩) (by have := HR.out.size; simp; omega)).trans h⟩
      have HRW := Lib.hid hrw; clear hrw
      obtain ⟨ts, hts, hmap⟩ := lex_joinB ps HF.out
      have hch := lexR_chain hts
      have hE := HST.out
      rw [← hE] at hts hch
      clear hE
      obtain ⟨l, hl⟩ : ∃ l, ts ++ [(⟨5, st.size, ⟨#[]⟩, 0⟩ : Tk)] = l := ⟨_, rfl⟩
      obtain ⟨hll, hkind, htext⟩ := join_toks rfl hmap hl
      rw [hl] at hts hch
      have HTEXT := Lib.hid htext; have HCH := Lib.hid (chain_at hch); have HLL := Lib.hid hll; have HKIND := Lib.hid hkind; have HTS := Lib.hid hts
      clear htext hch hkind hts hl hmap hll
      go_wp2_with fail
      refine (all_any st _ (by omega) HRW.out).mono ?_
      rintro x w9 ⟨hb9, h9⟩
      rw [HTS.out] at h9
      obtain ⟨v, rfl, ho⟩ := h9
      obtain ⟨b, cap9, rfl, htk⟩ := toks_of (by rw [HLL.out]; omega) ho
      have HK := Lib.hid (show w9.cell? ⟨b, ps.length * 4, none⟩ = some (.int .i64 5) by rw [(htk.2 ps.length (by rw [HLL.out]; omega)).1, HKIND.out (by rw [HLL.out]; omega)])
      have hb9z := htk.1
      have hk9 := HK.out
      rw [HLL.out]
      have HTK := Lib.hid htk; have HB9 := Lib.hid hb9
      clear htk hb9 ho
      go_wp2_with fail
      clear hk9
      generalize hW9 : w9.alloc _ = W9
      have hbW9 : Below w9.heap.size w9 W9 := by rw [← hW9]; exact (Below.refl _ _).alloc (Nat.le_refl _) _
      have HBW9 := Lib.hid hbW9; have HTKW := Lib.hid (HTK.out.below hbW9)
      have HB10 := Lib.hid (HB9.out.trans (hbW9.mono HB9.out.size))
      clear hW9 hbW9
      go_loopw [90] (fun t wx => ∃ j : Nat, t = .int .i64 j ∧ j ≤ ps.length ∧ Below W9.heap.size W9 wx) (fun t _ => ps.length - (intOf t).toNat)
      case atStart => exact ⟨0, rfl, Nat.zero_le _, Below.refl _ _⟩
      case round =>
        obtain ⟨j, rfl, hj, hbx⟩ := hrel
        have HBX := Lib.hid hbx; clear hbx
        by_cases hlt : j < ps.length
        · obtain ⟨bq, hpq, hbq, hcq⟩ := HWANT.out j (by simpa using hlt)
          subst hpq
          have hq1 : wr.cell? ⟨bq, j, none⟩ = some (.string ((ps.map (·.1))[j]'(by simpa using hlt))) := (HBX.out.cell (p := ⟨bq, j, none⟩) (Nat.lt_of_lt_of_le hbq HB10.out.size)).trans ((HB10.out.cell (p := ⟨bq, j, none⟩) hbq).trans hcq)
          have hlt2 : j < l.length := by rw [HLL.out]; omega
          have t1 := HTKW.out.below HBX.out
          obtain ⟨a0, a1, a2, a3⟩ := t1.2 j hlt2
          obtain ⟨hps, hex⟩ := HCH.out j hlt2
          rw [← HTEXT.out j hlt hlt2 (by simpa using hlt)] at hq1
          clear hcq t1 a0 a3
          generalize l[j] = T at *
          obtain ⟨kd, po, tx, nm⟩ := T
          have hps2 : po + tx.size ≤ st.size := hps
          have hex2 : st.extract po (po + tx.size) = tx := hex
          have hq2 : wr.cell? ⟨bq, j, none⟩ = some (.string tx) := hq1
          clear hps hex hq1
          have g2 : IntKind.i64.wrap ((po : Int) + (tx.size : Int)) = (po : Int) + (tx.size : Int) := IntWalk.i64_in _ (by omega)
          have g3 : (j : Int) < (ps.length : Int) + 1 := by omega
          have g4 : (0 : Int) ≤ (j : Int) := by omega
          go_wp2_with fail
          go_quiet (fail)
          clear g2 g3 g4 hex2
          go_wp2_with fail
          go_roundw
          case rel => exact ⟨j + 1, by go_num, by omega, belowDrawn HBX.out _⟩
          case measure => simp [intOf]; omega
        · have hje : j = ps.length := by omega
          clear hlt
          go_wp2_with fail
          go_ret
          exact ⟨rfl, HB7.out.trans ((HBR.out.trans ((HB10.out.trans (HBX.out.mono HB10.out.size)).mono (by have := HBR.out.size; omega))).mono hz06)⟩
end Go.Proofs.YthhkjjdhecpmlaaDoor
