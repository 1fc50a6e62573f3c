/-
  girandolelaw01.LexStands, walked.
-/
import Derived.Test.YthhkjjdhecpmlaaDoorStA
import Derived.Test.YthhkjjdhecpmlaaDoorRfG
namespace Go.Proofs.YthhkjjdhecpmlaaDoor
open Go.RowKit
theorem lexR_chain {s : ByteArray} {l : List Tk} (h : lexR s (skipN s 0) [] = .inr l) : Chain s 0 l := by
  have hsk := skipN_ge (s := s) (k := 0) (by omega)
  obtain ⟨r, hr, hc⟩ := chain_of s _ _ 0 _ _ (Nat.le_refl _) hsk.2 rfl h
  rw [hr]; exact hc
theorem chain_last {s : ByteArray} : ∀ {a : Nat} {l : List Tk}, Chain s a l → ∃ (h : l.length - 1 < l.length), l[l.length - 1].kind = 5
  | a, [], h => h.elim
  | a, T :: r, h => by
    obtain ⟨_, _, _, h4⟩ := h
    rcases h4 with ⟨rfl, _, hk⟩ | ⟨hr, hc⟩
    · exact ⟨by simp, hk⟩
    · obtain ⟨hl, hk⟩ := chain_last hc
      refine ⟨by simp, ?_⟩
      have e : (T :: r).length - 1 = (r.length - 1) + 1 := by simp; omega
      simp only [e, List.getElem_cons_succ]
      exact hk
/-- What All gives of a gap. -/
theorem gap_any (g : ByteArray) (w : World) (hs : g.size ≤ 4000) (hr : Rng w) (h : lexR g (skipN g 0) [] = .inr [⟨5, g.size, ⟨#[]⟩, 0⟩]) :
    Calls Tryd.prog 13 #[.string g] w fun e w' => ∃ b cap, e = .returned (.tuple #[.slice (some ⟨b, 0, none⟩) 1 cap, .agg #[.int .i64 0, .int .i64 0]]) ∧ b < w'.heap.size ∧ w'.cell? ⟨b, 0, none⟩ = some (.int .i64 5) ∧ Below w.heap.size w w' :=
  (all_any g w hs hr).mono fun e w' hh => by
    obtain ⟨hb, hh⟩ := hh
    rw [h] at hh
    obtain ⟨v, he, ho⟩ := hh
    obtain ⟨b, cap, rfl, ht⟩ := toks_of (by simp) ho
    exact ⟨b, cap, he, ht.1, (ht.2 0 (by simp)).1, hb⟩

set_option maxHeartbeats 8000000 in
set_option maxRecDepth 100000 in
theorem lexStands_walk (s0 : ByteArray) (w : World) (hs0 : s0.size ≤ 9223372036854775807) (hr : Rng w) :
    Calls Tryd.prog 6 #[.string s0] w fun e w' => e = .returned (.bool true) ∧ Below w.heap.size w w' := by
  have HR := Lib.hid hr; clear hr
  have hs := cut_size s0
  go_enter Tryd.func6, Tryd.ntmps6
  go_wp2_with fail
  refine (cut_any s0 _ hs0).mono ?_
  rintro x w' ⟨rfl, rfl⟩
  generalize cut s0 = s at *
  go_wp2_with fail
  refine (awakeLex _ HR.out).mono ?_
  rintro x w1 ⟨rfl, hb1⟩
  have HR1 := Lib.hid (HR.out.below hb1); have HB1 := Lib.hid hb1; clear hb1
  go_wp2_with fail
  refine (all_any s _ (by omega) HR1.out).mono ?_
  rintro x w2 ⟨hb2, h2⟩
  have HR2 := Lib.hid (HR1.out.below hb2); have HB2 := Lib.hid (HB1.out.trans (hb2.mono HB1.out.size)); clear hb2
  obtain ⟨R, hR⟩ : ∃ R, lexR s (skipN s 0) [] = R := ⟨_, rfl⟩
  rw [hR] at h2
  cases R with
  | inl p =>
    obtain ⟨k, er⟩ := p
    subst h2
    have her : er ≠ 0 := lexF_err s _ _ _ _ hR
    have hne : (er == 0) = false := by rw [beq_eq_false_iff_ne]; exact her
    clear hR her
    go_wp2_with fail
    go_ret
    exact ⟨by simp, HB2.out.alloc HB2.out.size _⟩
  | inr l =>
    obtain ⟨v, rfl, ho⟩ := h2
    have hlen := lexR_len hR
    have hch := lexR_chain hR
    obtain ⟨hll, hlk⟩ := chain_last hch
    obtain ⟨b, cap, rfl, htk⟩ := toks_of hlen.1 ho
    have hlast := (htk.2 _ hll).1
    rw [hlk] at hlast
    have HTK := Lib.hid htk; have HCH := Lib.hid hch; have HLAST := Lib.hid hlast
    clear htk ho hch hlast hlk hll hR
    go_wp2_with fail
    generalize hW : w2.alloc _ = W
    have hbW : Below w2.heap.size w2 W := by rw [← hW]; exact (Below.refl _ _).alloc (Nat.le_refl _) _
    have HTKW := Lib.hid (HTK.out.below hbW); have HRW := Lib.hid (HR2.out.below hbW); have HBW := Lib.hid (HB2.out.trans (hbW.mono HB2.out.size))
    have hl0 := hlen.1
    have hl1 := hlen.2
    have HCELL := Lib.hid ((hbW.cell (p := ⟨b, (l.length - 1) * 4, none⟩) HTK.out.1).trans HLAST.out)
    clear hW hbW HTK
    go_loopw [5, 27] (fun u t wr => ∃ (j a : Nat), t = .int .i64 j ∧ u = .int .i64 a ∧ j ≤ l.length ∧ a ≤ s.size ∧ Hid (j < l.length → Chain s a (l.drop j)) ∧ Hid (j = l.length → a = s.size) ∧ Below W.heap.size W wr) (fun _ t _ => l.length - (intOf t).toNat)
    case atStart => exact ⟨0, 0, rfl, rfl, Nat.zero_le _, Nat.zero_le _, Lib.hid (fun _ => HCH.out), Lib.hid (fun h => by omega), Below.refl _ _⟩
    case round =>
      obtain ⟨j, a, rfl, rfl, hj, ha, HC1, HC2, hbr⟩ := hrel
      have HBR := Lib.hid hbr; clear hbr
      by_cases hlt : j < l.length
      · have t1 := Toks.below HTKW.out HBR.out
        have hz1 := t1.1
        obtain ⟨a0, a1, a2, a3⟩ := t1.2 j hlt
        have hc := HC1.out hlt
        rw [List.drop_eq_getElem_cons hlt] at hc
        obtain ⟨hpos, hps, hex, hnext⟩ := hc
        have hn1 : j + 1 < l.length → Chain s (l[j].pos + l[j].text.size) (l.drop (j + 1)) := fun h => by
          rcases hnext with ⟨hnil, _, _⟩ | ⟨_, hc⟩
          · have := congrArg List.length hnil; simp at this; omega
          · exact hc
        have hn2 : j + 1 = l.length → l[j].pos + l[j].text.size = s.size := fun h => by
          rcases hnext with ⟨_, he, _⟩ | ⟨hr, _⟩
          · exact he
          · exact absurd (List.drop_eq_nil_of_le (by omega)) hr
        have hsk := skipN_ge (s := s) (k := a) ha
        rw [← hpos] at hsk
        have hgap := lex_gap ha
        rw [← hpos] at hgap
        have HN1 := Lib.hid hn1; have HN2 := Lib.hid hn2; have HGAP := Lib.hid hgap
        clear t1 hnext hn1 hn2 hgap hpos
        generalize l[j] = T at *
        obtain ⟨kd, ps, tx, nm⟩ := T
        have hps2 : ps + tx.size ≤ s.size := hps
        have hap : a ≤ ps := hsk.1
        have hex2 : s.extract ps (ps + tx.size) = tx := hex
        have HEX := Lib.hid hex2
        clear hps hsk hex hex2
        have g1 : decide ((ps : Int) < (a : Int)) = false := by simp; omega
        have g2 : IntKind.i64.wrap ((ps : Int) + (tx.size : Int)) = (ps : Int) + (tx.size : Int) := IntWalk.i64_in _ (by omega)
        have g3 : decide ((s.size : Int) < (ps : Int) + (tx.size : Int)) = false := by simp; omega
        have g4 : decide (ps < a) = false := by simp; omega
        have g5 : decide (s.size < ps + tx.size) = false := by simp; omega
        go_wp2_with fail
        have hx1 := HEX.out
        go_quiet (fail)
        clear hx1 g1 g2 g3 g4 g5 a0 a1 a2 a3
        generalize hW2 : (wr.alloc _).drewN nq = W2
        have hbW2 : Below wr.heap.size wr W2 := by rw [← hW2]; exact belowDrawn ((Below.refl _ _).alloc (Nat.le_refl _) _) _
        have hzW2 : W2.heap.size = wr.heap.size + 1 := by rw [← hW2]; simp
        have p1 : W2.cell? ⟨wr.heap.size, 1, none⟩ = some (.int .i64 ps) := by rw [← hW2]; simp
        have p2 : W2.cell? ⟨wr.heap.size, 2, none⟩ = some (.string tx) := by rw [← hW2]; simp
        have HBW2 := Lib.hid hbW2; have HZW2 := Lib.hid hzW2; have HP1 := Lib.hid p1; have HP2 := Lib.hid p2
        clear hW2 hbW2 hzW2 p2
        go_wp2_with fail
        clear p1
        refine (gap_any (s.extract a ps) _ (by rw [extract_size' (by omega) (by omega)]; omega) (HRW.out.below (HBR.out.trans (HBW2.out.mono HBR.out.size))) HGAP.out).mono ?_
        rintro x w4 ⟨b4, cap4, rfl, hb4z, hk4, hb4⟩
        have hz4 : wr.heap.size < w4.heap.size := by have := hb4.size; have := HZW2.out; omega
        have p1 : w4.cell? ⟨wr.heap.size, 1, none⟩ = some (.int .i64 ps) := (hb4.cell (p := ⟨wr.heap.size, 1, none⟩) (by rw [HZW2.out]; exact Nat.lt_succ_self _)).trans HP1.out
        have p2 : w4.cell? ⟨wr.heap.size, 2, none⟩ = some (.string tx) := (hb4.cell (p := ⟨wr.heap.size, 2, none⟩) (by rw [HZW2.out]; exact Nat.lt_succ_self _)).trans HP2.out
        have HB4 := Lib.hid (HBR.out.trans ((HBW2.out.trans (hb4.mono HBW2.out.size)).mono HBR.out.size))
        clear hb4
        go_wp2_with fail
        go_roundw
        case rel => exact ⟨j + 1, ps + tx.size, by go_num, by go_num, by omega, hps2, HN1, HN2, HB4.out.alloc HB4.out.size _⟩
        case measure => simp [intOf]; omega
      · have hje : j = l.length := by omega
        have hae := HC2.out hje
        have hcell := (HBR.out.cell (p := ⟨b, (l.length - 1) * 4, none⟩) HTKW.out.1).trans HCELL.out
        have HAE := Lib.hid hae; clear hae hlt
        have hac : ((a : Int) == (s.size : Int)) = true := by rw [HAE.out]; simp
        have hl9 : (0 : Int) ≤ (l.length : Int) - 1 := by omega
        have hbz := Toks.below HTKW.out HBR.out |>.1
        go_wp2_with fail
        go_ret
        exact ⟨rfl, HBW.out.trans (HBR.out.mono HBW.out.size)⟩
end Go.Proofs.YthhkjjdhecpmlaaDoor
